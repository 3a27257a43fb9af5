/-
  JOINED BY tools/join.py: EnvLaid, EventBackLaw.
-/
import Derived.Test.YtpoojmodebgioaaDoorNumRead
import Derived.Stop.LaidErr
import Derived.LaidLaws
import Derived.Test.YtpoojmodebgioaaDoorCurRead
import Derived.Test.YtpoojmodebgioaaDoorImplEvRead
import Derived.Test.YtpoojmodebgioaaDoorLawsPick

/-
  WHAT THE WALKS ASK OF THE LIBRARY's VARIABLES, out of the row's list of what they hold.
-/
namespace Go.Proofs.YtpoojmodebgioaaDoor.num
open Go.RowKit

theorem star : "*" ++ "errors.errorString" = "*errors.errorString" := by decide
/-- The one type of that name. -/
theorem errRow (u : TypeId) (h : Tryd.prog.typeName? 3 u = some "*errors.errorString") : u = 147 :=
  typeName_ptr_named (nm := "errors.errorString") (by rw [star]; kernel_rfl) (by kernel_rfl) (by decide) u (by rw [star]; exact h)

theorem var_lt {w : World} {n : String} {g : Nat} {v : Value} (hg : Tryd.prog.globalNamed n = some g) (h : w.var? Tryd.prog n = some #[v]) : g < w.heap.size :=
  World.block_lt_of_cell? w ⟨g, 0, none⟩ (u := v) (by simpa using World.var?_cell hg h 0)

/-- The seven listed variables. -/
theorem env_of_laid {W : World} {x0 x1 x3 x6 : String × DataW Unit} {t4 t5 : List UInt8} (h : laidMet Tryd.prog [x0, x1, ("internal/strconv.uint64pow10", Lib.tabData .u64 Lib.pow10Tab), x3, ("strconv.ErrRange", .iface "*errors.errorString" (.ptr (.agg [.lit (.string t4)]))), ("strconv.ErrSyntax", .iface "*errors.errorString" (.ptr (.agg [.lit (.string t5)]))), x6] W) : Env W := by
  obtain ⟨a4, s4, hv4, -⟩ := laid_sentinel (g := 5) h.tail.tail.tail.tail (by kernel_rfl) (by kernel_rfl) Tryd.underlying90 errRow Tryd.underlying147 Tryd.underlying149 rfl rfl Tryd.underlying9 (by kernel_rfl) (by kernel_rfl)
  obtain ⟨a5, s5, hv5, -⟩ := laid_sentinel (g := 4) h.tail.tail.tail.tail.tail (by kernel_rfl) (by kernel_rfl) Tryd.underlying90 errRow Tryd.underlying147 Tryd.underlying149 rfl rfl Tryd.underlying9 (by kernel_rfl) (by kernel_rfl)
  exact ⟨pow_of_laid h, ⟨_, _, hv5⟩, ⟨_, _, hv4⟩, var_lt gSyn hv5, var_lt gRan hv4⟩
/-- Where five are listed. -/
theorem env_of_laid5 {W : World} {x0 x1 : String × DataW Unit} {t4 t5 : List UInt8} (h : laidMet Tryd.prog [x0, x1, ("internal/strconv.uint64pow10", Lib.tabData .u64 Lib.pow10Tab), ("strconv.ErrRange", .iface "*errors.errorString" (.ptr (.agg [.lit (.string t4)]))), ("strconv.ErrSyntax", .iface "*errors.errorString" (.ptr (.agg [.lit (.string t5)])))] W) : Env W := by
  obtain ⟨a4, s4, hv4, -⟩ := laid_sentinel (g := 5) h.tail.tail.tail (by kernel_rfl) (by kernel_rfl) Tryd.underlying90 errRow Tryd.underlying147 Tryd.underlying149 rfl rfl Tryd.underlying9 (by kernel_rfl) (by kernel_rfl)
  obtain ⟨a5, s5, hv5, -⟩ := laid_sentinel (g := 4) h.tail.tail.tail.tail (by kernel_rfl) (by kernel_rfl) Tryd.underlying90 errRow Tryd.underlying147 Tryd.underlying149 rfl rfl Tryd.underlying9 (by kernel_rfl) (by kernel_rfl)
  exact ⟨pow_of_laid h, ⟨_, _, hv5⟩, ⟨_, _, hv4⟩, var_lt gSyn hv5, var_lt gRan hv4⟩
end Go.Proofs.YtpoojmodebgioaaDoor.num

/-
  THE WALK OF THE LAW FnEventBack: whatever the code, it answers true; nothing that was there is written.
  Condition: what the walks ask of the library's variables (num.Env).
-/
namespace Go.Proofs.YtpoojmodebgioaaDoor.dat
open Go.RowKit Go.Proofs.YtpoojmodebgioaaDoor.win Go.Proofs.YtpoojmodebgioaaDoor.cur
open Go.Proofs.YtpoojmodebgioaaDoor.num (Env Env.next)

theorem evR_some_back {c : ConfD} {s : List UInt8} {e : EventD} (h : evR c s = some e) : eventB c e = true ∧ evText e = s := by
  unfold evR at h
  split at h
  · rename_i hx
    cases h
    exact Classical.choose_spec hx
  · cases h
theorem text_back {c : ConfD} {t : ByteArray} {e : EventD} (h : evR c t.data.toList = some e) : (⟨(evD c e).toArray⟩ : ByteArray) = t ∧ eventB c e = true := by
  have hb := evR_some_back h
  refine ⟨?_, hb.1⟩
  unfold evD
  rw [if_pos hb.1, hb.2]

set_option maxRecDepth 100000 in
set_option maxHeartbeats 4000000 in
theorem law_EventBack (a : Option Addr) (len cap : Nat) (zs : List Int) (w : World) (hrow : IsRow .u8 w a len cap zs) (hE : Env w) :
    Calls Tryd.prog 3 #[.slice a len cap] w fun e w' => e = .returned (.bool true) ∧ Below w.heap.size w w' := by
  have HK := Lib.hid (code_of_row hrow)
  have HE := Lib.hid hE
  clear hrow hE
  obtain ⟨t1, ht1⟩ : ∃ t, decide (1048576 < len) = t := ⟨_, rfl⟩
  have hb1 := Lib.hid (fun W => big_any a len cap t1 W ht1)
  have HT1 := Lib.hid ht1
  clear ht1
  cases t1
  case true =>
    go_enter Tryd.func3, Tryd.ntmps3
    go_wp2_with fail
    refine (hb1.out w).mono ?_
    rintro e w' ⟨rfl, rfl⟩
    go_wp2_with fail
    go_ret
    exact ⟨rfl, Below.refl _ _⟩
  case false =>
  have hbig : ¬ 1048576 < len := of_decide_eq_false HT1.out
  go_enter Tryd.func3, Tryd.ntmps3
  go_wp2_with fail
  refine (hb1.out w).mono ?_
  rintro e w' ⟨rfl, rfl⟩
  go_wp2_with fail
  clear hb1 HT1
  refine (DrawEventText_any _ _ _ _ (by omega) HK.out).mono ?_
  rintro e w1 ⟨c, h, fp, ev, eh, ef, rfl, hIs, hws, hms, hEv, hds, hb1⟩
  have HC := Lib.hid hIs
  have HV := Lib.hid hEv
  have B1 := Lib.hid hb1
  clear hIs hEv hb1 hws hms
  simp only [Config.list, Event.list]
  go_wp2_with fail
  refine calls_gen (fun W => Below w1.heap.size w1 W ∧ Blk W w1.heap.size 27 (Config.list c h) ∧ Blk W (w1.heap.size + 1) 29 (Event.list ev eh)) ⟨by repeat (first | exact Below.refl _ _ | refine Below.setCell ?_ (by first | omega | (simp; done) | (simp; omega)) _ | refine Below.alloc ?_ (by first | omega | (simp; done) | (simp; omega)) _ | apply Below.drew), by unfold Config.list; with_reducible (repeat (first | (refine blk_new_at _ _ _ _ ?_; first | rfl | (simp; done)) | refine Blk.alloc ?_ _ | apply Blk.drew | refine Blk.setOther ?_ (by first | (simp; done) | (simp; omega)) _)), by unfold Event.list; with_reducible (repeat (first | (refine blk_new_at _ _ _ _ ?_; first | rfl | (simp; done)) | refine Blk.alloc ?_ _ | apply Blk.drew | refine Blk.setOther ?_ (by first | (simp; done) | (simp; omega)) _))⟩ ?_
  rintro W2 ⟨b2, k2, y2⟩
  have HT := Lib.hid (impl_EventText c h fp ev eh ef W2 (HC.out.below b2) (HV.out.below b2) (HE.out.next (B1.out.trans (b2.mono B1.out.size))).pow)
  simp only [Config.list, Event.list] at HT
  refine HT.out.mono ?_
  rintro e W3 ⟨rfl, b3⟩
  have hB3 := b2.trans (b3.mono b2.size)
  have K3 := Lib.hid (k2.below b3 k2.lt)
  have Y3 := Lib.hid (y2.below b3 y2.lt)
  have C3 := Lib.hid (HC.out.below hB3)
  have V3 := Lib.hid (HV.out.below hB3)
  have B3 := Lib.hid (B1.out.trans (hB3.mono B1.out.size))
  obtain ⟨s, hs⟩ : ∃ s : ByteArray, (⟨(evD c ev).toArray⟩ : ByteArray) = s := ⟨_, rfl⟩
  rw [hs]
  have HS := Lib.hid hs
  clear b2 b3 k2 y2 hB3 HC HV hs HT
  have k0 := K3.out.cell 0
  have k1 := K3.out.cell 1
  have k2 := K3.out.cell 2
  have k3 := K3.out.cell 3
  have k4 := K3.out.cell 4
  have y0 := Y3.out.cell 0
  have y1 := Y3.out.cell 1
  have y2 := Y3.out.cell 2
  simp [Config.list, Event.list] at k0 k1 k2 k3 k4 y0 y1 y2
  go_wp2_with fail
  have HO := Lib.hid (spec_EventOk c h fp ev eh ef W3 C3.out V3.out)
  simp only [Config.list, Event.list] at HO
  refine HO.out.mono ?_
  rintro e W4 ⟨rfl, b4⟩
  have K4 := Lib.hid (K3.out.below b4 K3.out.lt)
  have Y4 := Lib.hid (Y3.out.below b4 Y3.out.lt)
  have C4 := Lib.hid (C3.out.below b4)
  have V4 := Lib.hid (V3.out.below b4)
  have B4 := Lib.hid (B3.out.trans (b4.mono B3.out.size))
  clear b4 K3 Y3 C3 V3 B3 HO k0 k1 k2 k3 k4 y0 y1 y2
  cases hev : eventB c ev with
  | false =>
    have hsE : s = ⟨#[]⟩ := by rw [← HS.out]; unfold evD; rw [hev]; rfl
    subst hsE
    clear hev
    go_wp2_with fail
    refine (DrawEventRead_any _ _ _ W4 (by omega) (HK.out.below B4.out)).mono ?_
    rintro e X1 ⟨d, dh, df, t, rfl, hIs, -, -, hts, hb⟩
    have DC := Lib.hid hIs
    have DB := Lib.hid (B4.out.trans (hb.mono B4.out.size))
    clear hIs hb
    simp only [Config.list]
    go_wp2_with fail
    refine calls_gen (fun W => Below X1.heap.size X1 W ∧ Blk W X1.heap.size 27 (Config.list d dh)) ⟨by repeat (first | exact Below.refl _ _ | refine Below.setCell ?_ (by first | omega | (simp; done) | (simp; omega)) _ | refine Below.alloc ?_ (by first | omega | (simp; done) | (simp; omega)) _ | apply Below.drew), by unfold Config.list; with_reducible (repeat (first | (refine blk_new_at _ _ _ _ ?_; first | rfl | (simp; done)) | refine Blk.alloc ?_ _ | apply Blk.drew | refine Blk.setOther ?_ (by first | (simp; done) | (simp; omega)) _))⟩ ?_
    rintro X2 ⟨b2, k2⟩
    have HR := Lib.hid (impl_EventRead_any d dh df t X2 (DC.out.below b2) (by omega) (HE.out.next (DB.out.trans (b2.mono DB.out.size))))
    simp only [Config.list] at HR
    refine HR.out.mono ?_
    rintro e X3 ⟨fh, ff, rfl, hF, -, b3⟩
    have hB3 := b2.trans (b3.mono b2.size)
    have K3 := Lib.hid (k2.below b3 k2.lt)
    have D3 := Lib.hid (DC.out.below hB3)
    have F3 := Lib.hid hF
    have B3 := Lib.hid (DB.out.trans (hB3.mono DB.out.size))
    clear b2 b3 k2 hB3 hF HR DC DB
    obtain ⟨ok, hok⟩ : ∃ ok, (evR d t.data.toList).isSome = ok := ⟨_, rfl⟩
    obtain ⟨fe, hfe⟩ : ∃ fe, evRD d t.data.toList = fe := ⟨_, rfl⟩
    rw [hfe] at F3 ⊢
    rw [hok]
    have HOK := Lib.hid hok
    have HFE := Lib.hid hfe
    have HRS := Lib.hid (fun X h => spec_EventRead_any d dh df t X h (by omega))
    unfold EvRead at HRS
    rw [hok, hfe] at HRS
    clear hok hfe
    simp only [Event.list, Config.list] at HRS ⊢
    have q0 := K3.out.cell 0
    have q1 := K3.out.cell 1
    have q2 := K3.out.cell 2
    have q3 := K3.out.cell 3
    have q4 := K3.out.cell 4
    have ql := K3.out.lt
    simp [Config.list] at q0 q1 q2 q3 q4
    go_wp2_with fail
    refine calls_gen (fun W => Below X3.heap.size X3 W ∧ Blk W X3.heap.size 29 (Event.list fe fh)) ⟨by repeat (first | exact Below.refl _ _ | refine Below.setCell ?_ (by first | omega | (simp; done) | (simp; omega)) _ | refine Below.alloc ?_ (by first | omega | (simp; done) | (simp; omega)) _ | apply Below.drew), by unfold Event.list; with_reducible (repeat (first | (refine blk_new_at _ _ _ _ ?_; first | rfl | (simp; done)) | refine Blk.alloc ?_ _ | apply Blk.drew | refine Blk.setOther ?_ (by first | (simp; done) | (simp; omega)) _))⟩ ?_
    rintro X4 ⟨b4, y4⟩
    refine (HRS.out X4 (D3.out.below b4)).mono ?_
    rintro e X5 ⟨gh, gf, rfl, -, b5⟩
    have hB5 := b4.trans (b5.mono b4.size)
    have K5 := Lib.hid (K3.out.below hB5 K3.out.lt)
    have Y5 := Lib.hid (y4.below b5 y4.lt)
    have D5 := Lib.hid (D3.out.below hB5)
    have F5 := Lib.hid (F3.out.below hB5)
    have B5 := Lib.hid (B3.out.trans (hB5.mono B3.out.size))
    clear b4 b5 y4 hB5 K3 D3 F3 B3 HRS q0 q1 q2 q3 q4 ql
    cases ok with
    | false =>
      go_wp2_with fail
      go_ret
      exact ⟨rfl, B5.out.alloc B5.out.size _⟩
    | true =>
      obtain ⟨e', he'⟩ : ∃ e', evR d t.data.toList = some e' := Option.isSome_iff_exists.1 HOK.out
      have hfe : e' = fe := by have := HFE.out; unfold evRD at this; rw [he'] at this; exact this
      subst hfe
      have hbk := text_back he'
      have q0 := K5.out.cell 0
      have q1 := K5.out.cell 1
      have q2 := K5.out.cell 2
      have q3 := K5.out.cell 3
      have q4 := K5.out.cell 4
      have ql := K5.out.lt
      have r0 := Y5.out.cell 0
      have r1 := Y5.out.cell 1
      have r2 := Y5.out.cell 2
      have rl := Y5.out.lt
      simp [Config.list, Event.list] at q0 q1 q2 q3 q4 r0 r1 r2
      have HBK := Lib.hid hbk
      clear he' hbk
      go_wp2_with fail
      refine calls_gen (fun W => Below X5.heap.size X5 W) (by repeat (first | exact Below.refl _ _ | refine Below.setCell ?_ (by first | omega | (simp; done) | (simp; omega)) _ | refine Below.alloc ?_ (by first | omega | (simp; done) | (simp; omega)) _ | apply Below.drew)) ?_
      intro X6 b6
      have HT := Lib.hid (impl_EventText d dh df e' fh ff X6 (D5.out.below b6) (F5.out.below b6) (HE.out.next (B5.out.trans (b6.mono B5.out.size))).pow)
      simp only [Config.list, Event.list] at HT
      refine HT.out.mono ?_
      rintro e X7 ⟨rfl, b7⟩
      rw [HBK.out.1]
      have hB7 := b6.trans (b7.mono b6.size)
      have q0 := (K5.out.below hB7 K5.out.lt).cell 0
      have q1 := (K5.out.below hB7 K5.out.lt).cell 1
      have q2 := (K5.out.below hB7 K5.out.lt).cell 2
      have q3 := (K5.out.below hB7 K5.out.lt).cell 3
      have q4 := (K5.out.below hB7 K5.out.lt).cell 4
      have r0 := (Y5.out.below hB7 Y5.out.lt).cell 0
      have r1 := (Y5.out.below hB7 Y5.out.lt).cell 1
      have r2 := (Y5.out.below hB7 Y5.out.lt).cell 2
      simp [Config.list, Event.list] at q0 q1 q2 q3 q4 r0 r1 r2
      have HO := Lib.hid (impl_EventOk d dh df e' fh ff X7 (D5.out.below hB7) (F5.out.below hB7))
      rw [HBK.out.2] at HO
      simp only [Config.list, Event.list] at HO
      have B7 := Lib.hid (B5.out.trans (hB7.mono B5.out.size))
      clear b6 b7 hB7 HT
      go_wp2_with fail
      refine HO.out.mono ?_
      rintro e X8 ⟨rfl, b8⟩
      have B8 := Lib.hid (B7.out.trans (b8.mono B7.out.size))
      clear b8
      go_wp2_with fail
      go_ret
      exact ⟨rfl, B8.out⟩
  | true =>
    have hsE : evText ev = s.data.toList := by rw [← HS.out]; unfold evD; rw [if_pos hev]
    have hss : s.size ≤ 200 := by
      have := evText_len hev
      rw [hsE] at this
      simpa using this
    have hR := evR_some hev hsE
    have k0 := K4.out.cell 0
    have k1 := K4.out.cell 1
    have k2 := K4.out.cell 2
    have k3 := K4.out.cell 3
    have k4 := K4.out.cell 4
    simp [Config.list] at k0 k1 k2 k3 k4
    have hrd : evRD c s.data.toList = ev := by unfold evRD; rw [hR]; rfl
    have HR := Lib.hid (impl_EventRead_any c h fp s W4 C4.out (by omega) (HE.out.next B4.out))
    unfold EvReadI at HR
    rw [hrd, hR] at HR
    simp only [Config.list, Event.list, Option.isSome_some] at HR
    clear hev hsE hR hrd
    go_wp2_with fail
    refine HR.out.mono ?_
    rintro e W5 ⟨gh, gf, rfl, hF, -, b5⟩
    have Y5 := Lib.hid (Y4.out.below b5 Y4.out.lt)
    have V5 := Lib.hid (V4.out.below b5)
    have F5 := Lib.hid hF
    have B5 := Lib.hid (B4.out.trans (b5.mono B4.out.size))
    clear b5 hF HR k0 k1 k2 k3 k4
    have y0 := Y5.out.cell 0
    have y1 := Y5.out.cell 1
    have y2 := Y5.out.cell 2
    have yl := Y5.out.lt
    simp [Event.list] at y0 y1 y2
    obtain ⟨f0, -, r0, u0, v0⟩ := F5.out
    obtain ⟨f1, -, r1, u1, v1⟩ := V5.out
    have el : gh.dsl = eh.dsl := r0.1.symm.trans r1.1
    rw [el] at r0
    have hl5 : eh.dsl ≤ 2000000 := by rw [← r1.1]; omega
    have R0 := Lib.hid r0
    have R1 := Lib.hid r1
    rw [el]
    clear r0 r1 u0 v0 u1 v1 el
    go_wp2_with fail
    refine calls_gen (fun W => Below W5.heap.size W5 W) (by repeat (first | exact Below.refl _ _ | refine Below.setCell ?_ (by first | omega | (simp; done) | (simp; omega)) _ | refine Below.alloc ?_ (by first | omega | (simp; done) | (simp; omega)) _ | apply Below.drew)) ?_
    intro W6 b6
    refine (same_same _ _ _ _ _ ev.ds W6 hl5 (row_of (R0.out.below local_int b6)) (row_of (R1.out.below local_int b6))).mono ?_
    rintro e W7 ⟨rfl, b7⟩
    have B7 := Lib.hid (B5.out.trans ((b6.trans (b7.mono b6.size)).mono B5.out.size))
    clear b6 b7 y0 y1 y2 yl
    go_wp2_with fail
    refine (DrawEventRead_any _ _ _ W7 (by omega) (HK.out.below B7.out)).mono ?_
    rintro e X1 ⟨d, dh, df, t, rfl, hIs, -, -, hts, hb⟩
    have DC := Lib.hid hIs
    have DB := Lib.hid (B7.out.trans (hb.mono B7.out.size))
    clear hIs hb
    simp only [Config.list]
    go_wp2_with fail
    refine calls_gen (fun W => Below X1.heap.size X1 W ∧ Blk W X1.heap.size 27 (Config.list d dh)) ⟨by repeat (first | exact Below.refl _ _ | refine Below.setCell ?_ (by first | omega | (simp; done) | (simp; omega)) _ | refine Below.alloc ?_ (by first | omega | (simp; done) | (simp; omega)) _ | apply Below.drew), by unfold Config.list; with_reducible (repeat (first | (refine blk_new_at _ _ _ _ ?_; first | rfl | (simp; done)) | refine Blk.alloc ?_ _ | apply Blk.drew | refine Blk.setOther ?_ (by first | (simp; done) | (simp; omega)) _))⟩ ?_
    rintro X2 ⟨b2, k2⟩
    have HR := Lib.hid (impl_EventRead_any d dh df t X2 (DC.out.below b2) (by omega) (HE.out.next (DB.out.trans (b2.mono DB.out.size))))
    simp only [Config.list] at HR
    refine HR.out.mono ?_
    rintro e X3 ⟨fh, ff, rfl, hF, -, b3⟩
    have hB3 := b2.trans (b3.mono b2.size)
    have K3 := Lib.hid (k2.below b3 k2.lt)
    have D3 := Lib.hid (DC.out.below hB3)
    have F3 := Lib.hid hF
    have B3 := Lib.hid (DB.out.trans (hB3.mono DB.out.size))
    clear b2 b3 k2 hB3 hF HR DC DB
    obtain ⟨ok, hok⟩ : ∃ ok, (evR d t.data.toList).isSome = ok := ⟨_, rfl⟩
    obtain ⟨fe, hfe⟩ : ∃ fe, evRD d t.data.toList = fe := ⟨_, rfl⟩
    rw [hfe] at F3 ⊢
    rw [hok]
    have HOK := Lib.hid hok
    have HFE := Lib.hid hfe
    have HRS := Lib.hid (fun X h => spec_EventRead_any d dh df t X h (by omega))
    unfold EvRead at HRS
    rw [hok, hfe] at HRS
    clear hok hfe
    simp only [Event.list, Config.list] at HRS ⊢
    have q0 := K3.out.cell 0
    have q1 := K3.out.cell 1
    have q2 := K3.out.cell 2
    have q3 := K3.out.cell 3
    have q4 := K3.out.cell 4
    have ql := K3.out.lt
    simp [Config.list] at q0 q1 q2 q3 q4
    go_wp2_with fail
    refine calls_gen (fun W => Below X3.heap.size X3 W ∧ Blk W X3.heap.size 29 (Event.list fe fh)) ⟨by repeat (first | exact Below.refl _ _ | refine Below.setCell ?_ (by first | omega | (simp; done) | (simp; omega)) _ | refine Below.alloc ?_ (by first | omega | (simp; done) | (simp; omega)) _ | apply Below.drew), by unfold Event.list; with_reducible (repeat (first | (refine blk_new_at _ _ _ _ ?_; first | rfl | (simp; done)) | refine Blk.alloc ?_ _ | apply Blk.drew | refine Blk.setOther ?_ (by first | (simp; done) | (simp; omega)) _))⟩ ?_
    rintro X4 ⟨b4, y4⟩
    refine (HRS.out X4 (D3.out.below b4)).mono ?_
    rintro e X5 ⟨gh, gf, rfl, -, b5⟩
    have hB5 := b4.trans (b5.mono b4.size)
    have K5 := Lib.hid (K3.out.below hB5 K3.out.lt)
    have Y5 := Lib.hid (y4.below b5 y4.lt)
    have D5 := Lib.hid (D3.out.below hB5)
    have F5 := Lib.hid (F3.out.below hB5)
    have B5 := Lib.hid (B3.out.trans (hB5.mono B3.out.size))
    clear b4 b5 y4 hB5 K3 D3 F3 B3 HRS q0 q1 q2 q3 q4 ql
    cases ok with
    | false =>
      go_wp2_with fail
      go_ret
      exact ⟨rfl, B5.out.alloc B5.out.size _⟩
    | true =>
      obtain ⟨e', he'⟩ : ∃ e', evR d t.data.toList = some e' := Option.isSome_iff_exists.1 HOK.out
      have hfe : e' = fe := by have := HFE.out; unfold evRD at this; rw [he'] at this; exact this
      subst hfe
      have hbk := text_back he'
      have q0 := K5.out.cell 0
      have q1 := K5.out.cell 1
      have q2 := K5.out.cell 2
      have q3 := K5.out.cell 3
      have q4 := K5.out.cell 4
      have ql := K5.out.lt
      have r0 := Y5.out.cell 0
      have r1 := Y5.out.cell 1
      have r2 := Y5.out.cell 2
      have rl := Y5.out.lt
      simp [Config.list, Event.list] at q0 q1 q2 q3 q4 r0 r1 r2
      have HBK := Lib.hid hbk
      clear he' hbk
      go_wp2_with fail
      refine calls_gen (fun W => Below X5.heap.size X5 W) (by repeat (first | exact Below.refl _ _ | refine Below.setCell ?_ (by first | omega | (simp; done) | (simp; omega)) _ | refine Below.alloc ?_ (by first | omega | (simp; done) | (simp; omega)) _ | apply Below.drew)) ?_
      intro X6 b6
      have HT := Lib.hid (impl_EventText d dh df e' fh ff X6 (D5.out.below b6) (F5.out.below b6) (HE.out.next (B5.out.trans (b6.mono B5.out.size))).pow)
      simp only [Config.list, Event.list] at HT
      refine HT.out.mono ?_
      rintro e X7 ⟨rfl, b7⟩
      rw [HBK.out.1]
      have hB7 := b6.trans (b7.mono b6.size)
      have q0 := (K5.out.below hB7 K5.out.lt).cell 0
      have q1 := (K5.out.below hB7 K5.out.lt).cell 1
      have q2 := (K5.out.below hB7 K5.out.lt).cell 2
      have q3 := (K5.out.below hB7 K5.out.lt).cell 3
      have q4 := (K5.out.below hB7 K5.out.lt).cell 4
      have r0 := (Y5.out.below hB7 Y5.out.lt).cell 0
      have r1 := (Y5.out.below hB7 Y5.out.lt).cell 1
      have r2 := (Y5.out.below hB7 Y5.out.lt).cell 2
      simp [Config.list, Event.list] at q0 q1 q2 q3 q4 r0 r1 r2
      have HO := Lib.hid (impl_EventOk d dh df e' fh ff X7 (D5.out.below hB7) (F5.out.below hB7))
      rw [HBK.out.2] at HO
      simp only [Config.list, Event.list] at HO
      have B7 := Lib.hid (B5.out.trans (hB7.mono B5.out.size))
      clear b6 b7 hB7 HT
      go_wp2_with fail
      refine HO.out.mono ?_
      rintro e X8 ⟨rfl, b8⟩
      have B8 := Lib.hid (B7.out.trans (b8.mono B7.out.size))
      clear b8
      go_wp2_with fail
      go_ret
      exact ⟨rfl, B8.out⟩
end Go.Proofs.YtpoojmodebgioaaDoor.dat
