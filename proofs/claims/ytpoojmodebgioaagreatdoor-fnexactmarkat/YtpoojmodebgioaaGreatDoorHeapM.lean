/-
  THE HEAP's OWN FUNCTIONS (container/heap: up, down, Push, Pop, Fix) over at most three readers.
-/
import Derived.Test.YtpoojmodebgioaaGreatDoorReaders
namespace Go.Proofs.YtpoojmodebgioaaGreatDoor.dat
open Go.RowKit Go.Proofs.YtpoojmodebgioaaGreatDoor.win

theorem meth_at {q fuel : Nat} {a : Option Addr} {n c T U f : Nat} {nm : String} {w : World} {P : Program} (hrow : ∃ I m, (∀ w, (typeInfo T).run P w = .ok I w) ∧ I.methods.find? (·.name == nm) = some m ∧ m.path = #[] ∧ m.func = some (f, false))
    (hr : ∀ s, (receiverAt T (.val (.pointer (some ⟨q, 0, none⟩))) false (some s)).run P w = (loadVar U ⟨q, 0, none⟩).run P w) (hl : (loadVar U ⟨q, 0, none⟩).run P w = .ok (.slice a n c) w) :
    (method (fuel + 1) T (.pointer (some ⟨q, 0, none⟩)) nm).run P w = .ok (f, .slice a n c) w := by
  obtain ⟨I, m, h1, h2, h3, h4⟩ := hrow
  rw [method]
  simp only [Sem.run_bind, h1, Result.andThen_ok, h2, h3, follow, Sem.run_pure, h4]
  simp [hr, hl]
theorem rd_load (q : Nat) (a : Option Addr) (n c : Nat) (w : World) (h : w.cell? ⟨q, 0, none⟩ = some (.slice a n c)) : (loadVar 64 ⟨q, 0, none⟩).run Tryz.prog w = .ok (.slice a n c) w := by
  simp [go_sem, h]
theorem rd_recv (q : Nat) (w : World) (s : String) : (receiverAt 97 (.val (.pointer (some ⟨q, 0, none⟩))) false (some s)).run Tryz.prog w = (loadVar 64 ⟨q, 0, none⟩).run Tryz.prog w := by kernel_rfl
theorem meth_Len (q : Nat) (a : Option Addr) (n c : Nat) (w : World) (h : w.cell? ⟨q, 0, none⟩ = some (.slice a n c)) : (method 293 97 (.pointer (some ⟨q, 0, none⟩)) "Len").run Tryz.prog w = .ok (158, .slice a n c) w :=
  meth_at ⟨(Tryz.prog.info? 97).getD default, (((Tryz.prog.info? 97).getD default).methods.find? (·.name == "Len")).getD default, fun w => by kernel_rfl, by kernel_rfl, by kernel_rfl, by kernel_rfl⟩ (rd_recv q w) (rd_load q a n c w h)
theorem meth_Less (q : Nat) (a : Option Addr) (n c : Nat) (w : World) (h : w.cell? ⟨q, 0, none⟩ = some (.slice a n c)) : (method 293 97 (.pointer (some ⟨q, 0, none⟩)) "Less").run Tryz.prog w = .ok (159, .slice a n c) w :=
  meth_at ⟨(Tryz.prog.info? 97).getD default, (((Tryz.prog.info? 97).getD default).methods.find? (·.name == "Less")).getD default, fun w => by kernel_rfl, by kernel_rfl, by kernel_rfl, by kernel_rfl⟩ (rd_recv q w) (rd_load q a n c w h)
theorem meth_Swap (q : Nat) (a : Option Addr) (n c : Nat) (w : World) (h : w.cell? ⟨q, 0, none⟩ = some (.slice a n c)) : (method 293 97 (.pointer (some ⟨q, 0, none⟩)) "Swap").run Tryz.prog w = .ok (160, .slice a n c) w :=
  meth_at ⟨(Tryz.prog.info? 97).getD default, (((Tryz.prog.info? 97).getD default).methods.find? (·.name == "Swap")).getD default, fun w => by kernel_rfl, by kernel_rfl, by kernel_rfl, by kernel_rfl⟩ (rd_recv q w) (rd_load q a n c w h)
theorem meth_Push (q : Nat) (w : World) : (method 293 97 (.pointer (some ⟨q, 0, none⟩)) "Push").run Tryz.prog w = .ok (163, .pointer (some ⟨q, 0, none⟩)) w := by kernel_rfl
theorem meth_Pop (q : Nat) (w : World) : (method 293 97 (.pointer (some ⟨q, 0, none⟩)) "Pop").run Tryz.prog w = .ok (162, .pointer (some ⟨q, 0, none⟩)) w := by kernel_rfl

set_option maxRecDepth 100000 in
set_option maxHeartbeats 1000000 in
theorem up0 (v : Value) (w : World) : Calls Tryz.prog 85 #[v, .int .i64 0] w fun e w' => e = .returned (.tuple #[]) ∧ w' = w := by
  go_enter Tryz.func85, Tryz.ntmps85
  go_wp2_with fail
  go_loopg [1] 0 (fun k j wr => k = 0 ∧ j = .int .i64 0 ∧ wr = w)
  case atStart => exact ⟨rfl, rfl, rfl⟩
  case round =>
    obtain ⟨rfl, rfl, rfl⟩ := hrel
    go_wp2_with fail
    go_end0
    exact ⟨rfl, rfl⟩

set_option maxRecDepth 100000 in
set_option maxHeartbeats 1000000 in
theorem up2 (q g cap : Nat) (x y : RdD) (rest : List Value) (w : World) (hq : Blk w q 64 [.slice (some ⟨g, 0, none⟩) 2 cap]) (hg : Blk w g 99 (rdFlat [x, y] ++ rest)) :
    Calls Tryz.prog 85 #[.iface 97 (.pointer (some ⟨q, 0, none⟩)), .int .i64 1] w fun e w' => e = .returned (.tuple #[]) ∧ Blk w' g 99 (rdFlat (upL [x, y]) ++ rest) ∧ Apart [g] w w' := by
  have q0 := hq.cell 0
  simp at q0
  go_enter Tryz.func85, Tryz.ntmps85
  go_wp2_with fail
  go_loopg [1] 1 (fun k j wr => (k = 1 ∧ j = .int .i64 1 ∧ wr = w) ∨ (k = 0 ∧ j = .int .i64 0 ∧ Blk wr g 99 (rdFlat (upL [x, y]) ++ rest) ∧ Apart [g] w wr))
  case atStart => exact .inl ⟨rfl, rfl, rfl⟩
  case round =>
    rcases hrel with ⟨rfl, rfl, rfl⟩ | ⟨rfl, rfl, hb, ha⟩
    · have m1 := meth_Less q _ _ _ _ q0
      have HG := Lib.hid hg
      have HQ := Lib.hid hq
      have HA := Lib.hid (Apart.refl [g] wr)
      clear hg hq
      have g4 := HG.out.cell 4
      have g7 := HG.out.cell 7
      have g0 := HG.out.cell 0
      have g3 := HG.out.cell 3
      simp [rdFlat, RdD.list] at g4 g7 g0 g3
      have HL := Lib.hid (rd_less g 2 cap 1 0 y x wr (by omega) (by omega) g4 g7 g0 g3)
      clear g4 g7 g0 g3
      go_wp2_with fail
      refine HL.out.mono ?_
      rintro e w1 ⟨rfl, b1⟩
      have G1 := Lib.hid (HG.out.below b1 HG.out.lt)
      have Q1 := Lib.hid (HQ.out.below b1 HQ.out.lt)
      have q1 := Q1.out.cell 0
      simp at q1
      have A1 := Lib.hid (HA.out.trans (Apart.of_below (fp := [g]) b1))
      clear b1 HL
      clear HG HQ HA q0 m1
      cases hp : lessB y x with
      | false =>
        have HU := Lib.hid (show [x, y] = upL [x, y] by simp [upL, hp])
        clear hp q1
        go_wp2_with fail
        go_end0
        exact ⟨rfl, by rw [← HU.out]; exact G1.out, A1.out⟩
      | true =>
        have HU := Lib.hid (show [y, x] = upL [x, y] by simp [upL, hp])
        clear hp
        have m2 := meth_Swap q _ _ _ _ q1
        go_wp2_with fail
        refine (rd_swap21 g 2 cap x y rest w1 (by omega) G1.out).mono ?_
        rintro e w9 ⟨rfl, k9, a9⟩
        have G9 := Lib.hid k9
        have A9 := Lib.hid (A1.out.trans a9)
        clear k9 a9
        go_wp2_with fail
        go_roundg 0
        case measure => omega
        case rel => exact .inr ⟨rfl, by go_num, by rw [← HU.out]; exact G9.out, A9.out⟩
    · have HB := Lib.hid hb
      have HA := Lib.hid ha
      clear hb ha
      go_wp2_with fail
      go_end0
      exact ⟨rfl, HB.out, HA.out⟩

set_option maxRecDepth 100000 in
set_option maxHeartbeats 1000000 in
theorem up3 (q g cap : Nat) (x y z : RdD) (rest : List Value) (w : World) (hq : Blk w q 64 [.slice (some ⟨g, 0, none⟩) 3 cap]) (hg : Blk w g 99 (rdFlat [x, y, z] ++ rest)) :
    Calls Tryz.prog 85 #[.iface 97 (.pointer (some ⟨q, 0, none⟩)), .int .i64 2] w fun e w' => e = .returned (.tuple #[]) ∧ Blk w' g 99 (rdFlat (upL [x, y, z]) ++ rest) ∧ Apart [g] w w' := by
  have q0 := hq.cell 0
  simp at q0
  go_enter Tryz.func85, Tryz.ntmps85
  go_wp2_with fail
  go_loopg [1] 1 (fun k j wr => (k = 1 ∧ j = .int .i64 2 ∧ wr = w) ∨ (k = 0 ∧ j = .int .i64 0 ∧ Blk wr g 99 (rdFlat (upL [x, y, z]) ++ rest) ∧ Apart [g] w wr))
  case atStart => exact .inl ⟨rfl, rfl, rfl⟩
  case round =>
    rcases hrel with ⟨rfl, rfl, rfl⟩ | ⟨rfl, rfl, hb, ha⟩
    · have m1 := meth_Less q _ _ _ _ q0
      have HG := Lib.hid hg
      have HQ := Lib.hid hq
      have HA := Lib.hid (Apart.refl [g] wr)
      clear hg hq
      have g8 := HG.out.cell 8
      have g11 := HG.out.cell 11
      have g0 := HG.out.cell 0
      have g3 := HG.out.cell 3
      simp [rdFlat, RdD.list] at g8 g11 g0 g3
      have HL := Lib.hid (rd_less g 3 cap 2 0 z x wr (by omega) (by omega) g8 g11 g0 g3)
      clear g8 g11 g0 g3
      go_wp2_with fail
      refine HL.out.mono ?_
      rintro e w1 ⟨rfl, b1⟩
      have G1 := Lib.hid (HG.out.below b1 HG.out.lt)
      have Q1 := Lib.hid (HQ.out.below b1 HQ.out.lt)
      have q1 := Q1.out.cell 0
      simp at q1
      have A1 := Lib.hid (HA.out.trans (Apart.of_below (fp := [g]) b1))
      clear b1 HL
      clear HG HQ HA q0 m1
      cases hp : lessB z x with
      | false =>
        have HU := Lib.hid (show [x, y, z] = upL [x, y, z] by simp [upL, hp])
        clear hp q1
        go_wp2_with fail
        go_end0
        exact ⟨rfl, by rw [← HU.out]; exact G1.out, A1.out⟩
      | true =>
        have HU := Lib.hid (show [z, y, x] = upL [x, y, z] by simp [upL, hp])
        clear hp
        have m2 := meth_Swap q _ _ _ _ q1
        go_wp2_with fail
        refine (rd_swap32 g 3 cap x y z rest w1 (by omega) G1.out).mono ?_
        rintro e w9 ⟨rfl, k9, a9⟩
        have G9 := Lib.hid k9
        have A9 := Lib.hid (A1.out.trans a9)
        clear k9 a9
        go_wp2_with fail
        go_roundg 0
        case measure => omega
        case rel => exact .inr ⟨rfl, by go_num, by rw [← HU.out]; exact G9.out, A9.out⟩
    · have HB := Lib.hid hb
      have HA := Lib.hid ha
      clear hb ha
      go_wp2_with fail
      go_end0
      exact ⟨rfl, HB.out, HA.out⟩

set_option maxRecDepth 100000 in
set_option maxHeartbeats 1000000 in
theorem down0 (v : Value) (w : World) : Calls Tryz.prog 87 #[v, .int .i64 0, .int .i64 0] w fun e w' => (∃ r, e = .returned (.bool r)) ∧ w' = w := by
  go_enter Tryz.func87, Tryz.ntmps87
  go_wp2_with fail
  go_loopg [7] 0 (fun k i wr => k = 0 ∧ i = .int .i64 0 ∧ wr = w)
  case atStart => exact ⟨rfl, rfl, rfl⟩
  case round =>
    obtain ⟨rfl, rfl, rfl⟩ := hrel
    go_wp2_with fail
    go_ret
    exact ⟨⟨_, rfl⟩, rfl⟩

set_option maxRecDepth 100000 in
set_option maxHeartbeats 1000000 in
theorem down1 (v : Value) (w : World) : Calls Tryz.prog 87 #[v, .int .i64 0, .int .i64 1] w fun e w' => (∃ r, e = .returned (.bool r)) ∧ w' = w := by
  go_enter Tryz.func87, Tryz.ntmps87
  go_wp2_with fail
  go_loopg [7] 0 (fun k i wr => k = 0 ∧ i = .int .i64 0 ∧ wr = w)
  case atStart => exact ⟨rfl, rfl, rfl⟩
  case round =>
    obtain ⟨rfl, rfl, rfl⟩ := hrel
    go_wp2_with fail
    go_ret
    exact ⟨⟨_, rfl⟩, rfl⟩

set_option maxRecDepth 100000 in
set_option maxHeartbeats 1000000 in
theorem down2 (q g cap : Nat) (x y : RdD) (rest : List Value) (w : World) (hq : Blk w q 64 [.slice (some ⟨g, 0, none⟩) 2 cap]) (hg : Blk w g 99 (rdFlat [x, y] ++ rest)) :
    Calls Tryz.prog 87 #[.iface 97 (.pointer (some ⟨q, 0, none⟩)), .int .i64 0, .int .i64 2] w fun e w' => (∃ r, e = .returned (.bool r)) ∧ Blk w' g 99 (rdFlat (downL [x, y]) ++ rest) ∧ Apart [g] w w' := by
  have q0 := hq.cell 0
  simp at q0
  go_enter Tryz.func87, Tryz.ntmps87
  go_wp2_with fail
  go_loopg [7] 1 (fun k i wr => (k = 1 ∧ i = .int .i64 0 ∧ wr = w) ∨ (k = 0 ∧ (i = .int .i64 1 ∨ i = .int .i64 2) ∧ Blk wr g 99 (rdFlat (downL [x, y]) ++ rest) ∧ Apart [g] w wr))
  case atStart => exact .inl ⟨rfl, rfl, rfl⟩
  case round =>
    rcases hrel with ⟨rfl, rfl, rfl⟩ | ⟨rfl, hi, hb, ha⟩
    · have m1 := meth_Less q _ _ _ _ q0
      have HG := Lib.hid hg
      have HQ := Lib.hid hq
      have HA := Lib.hid (Apart.refl [g] wr)
      clear hg hq
      have g4 := HG.out.cell 4
      have g7 := HG.out.cell 7
      have g0 := HG.out.cell 0
      have g3 := HG.out.cell 3
      simp [rdFlat, RdD.list] at g4 g7 g0 g3
      have HL := Lib.hid (rd_less g 2 cap 1 0 y x wr (by omega) (by omega) g4 g7 g0 g3)
      clear g4 g7 g0 g3
      go_wp2_with fail
      refine HL.out.mono ?_
      rintro e w1 ⟨rfl, b1⟩
      have G1 := Lib.hid (HG.out.below b1 HG.out.lt)
      have Q1 := Lib.hid (HQ.out.below b1 HQ.out.lt)
      have q1 := Q1.out.cell 0
      simp at q1
      have A1 := Lib.hid (HA.out.trans (Apart.of_below (fp := [g]) b1))
      clear b1 HL
      clear HG HQ HA
      cases hp : lessB y x with
      | false =>
        have HU := Lib.hid (show [x, y] = downL [x, y] by simp [downL, hp])
        clear hp q1
        go_wp2_with fail
        go_ret
        exact ⟨⟨_, rfl⟩, by rw [← HU.out]; exact G1.out, A1.out⟩
      | true =>
        have HU := Lib.hid (show [y, x] = downL [x, y] by simp [downL, hp])
        clear hp
        have m2 := meth_Swap q _ _ _ _ q1
        go_wp2_with fail
        refine (rd_swap21 g 2 cap x y rest w1 (by omega) G1.out).mono ?_
        rintro e w9 ⟨rfl, k9, a9⟩
        have G9 := Lib.hid k9
        have A9 := Lib.hid (A1.out.trans a9)
        clear k9 a9
        go_wp2_with fail
        go_roundg 0
        case measure => omega
        case rel => exact .inr ⟨rfl, .inl (by go_num), by rw [← HU.out]; exact G9.out, A9.out⟩
    · have HB := Lib.hid hb
      have HA := Lib.hid ha
      clear hb ha
      rcases hi with rfl | rfl
      all_goals go_wp2_with fail
      all_goals go_ret
      all_goals exact ⟨⟨_, rfl⟩, HB.out, HA.out⟩

set_option maxRecDepth 100000 in
set_option maxHeartbeats 1000000 in
theorem down23 (q g cap : Nat) (x y z : RdD) (rest : List Value) (w : World) (hq : Blk w q 64 [.slice (some ⟨g, 0, none⟩) 3 cap]) (hg : Blk w g 99 (rdFlat [x, y, z] ++ rest)) :
    Calls Tryz.prog 87 #[.iface 97 (.pointer (some ⟨q, 0, none⟩)), .int .i64 0, .int .i64 2] w fun e w' => (∃ r, e = .returned (.bool r)) ∧ Blk w' g 99 (rdFlat (downL [x, y] ++ [z]) ++ rest) ∧ Apart [g] w w' := by
  have q0 := hq.cell 0
  simp at q0
  go_enter Tryz.func87, Tryz.ntmps87
  go_wp2_with fail
  go_loopg [7] 1 (fun k i wr => (k = 1 ∧ i = .int .i64 0 ∧ wr = w) ∨ (k = 0 ∧ (i = .int .i64 1 ∨ i = .int .i64 2) ∧ Blk wr g 99 (rdFlat (downL [x, y] ++ [z]) ++ rest) ∧ Apart [g] w wr))
  case atStart => exact .inl ⟨rfl, rfl, rfl⟩
  case round =>
    rcases hrel with ⟨rfl, rfl, rfl⟩ | ⟨rfl, hi, hb, ha⟩
    · have m1 := meth_Less q _ _ _ _ q0
      have HG := Lib.hid hg
      have HQ := Lib.hid hq
      have HA := Lib.hid (Apart.refl [g] wr)
      clear hg hq
      have g4 := HG.out.cell 4
      have g7 := HG.out.cell 7
      have g0 := HG.out.cell 0
      have g3 := HG.out.cell 3
      simp [rdFlat, RdD.list] at g4 g7 g0 g3
      have HL := Lib.hid (rd_less g 3 cap 1 0 y x wr (by omega) (by omega) g4 g7 g0 g3)
      clear g4 g7 g0 g3
      go_wp2_with fail
      refine HL.out.mono ?_
      rintro e w1 ⟨rfl, b1⟩
      have G1 := Lib.hid (HG.out.below b1 HG.out.lt)
      have Q1 := Lib.hid (HQ.out.below b1 HQ.out.lt)
      have q1 := Q1.out.cell 0
      simp at q1
      have A1 := Lib.hid (HA.out.trans (Apart.of_below (fp := [g]) b1))
      clear b1 HL
      clear HG HQ HA
      cases hp : lessB y x with
      | false =>
        have HU := Lib.hid (show [x, y, z] = downL [x, y] ++ [z] by simp [downL, hp])
        clear hp q1
        go_wp2_with fail
        go_ret
        exact ⟨⟨_, rfl⟩, by rw [← HU.out]; exact G1.out, A1.out⟩
      | true =>
        have HU := Lib.hid (show [y, x, z] = downL [x, y] ++ [z] by simp [downL, hp])
        clear hp
        have m2 := meth_Swap q _ _ _ _ q1
        go_wp2_with fail
        refine (rd_swap31 g 3 cap x y z rest w1 (by omega) G1.out).mono ?_
        rintro e w9 ⟨rfl, k9, a9⟩
        have G9 := Lib.hid k9
        have A9 := Lib.hid (A1.out.trans a9)
        clear k9 a9
        go_wp2_with fail
        go_roundg 0
        case measure => omega
        case rel => exact .inr ⟨rfl, .inl (by go_num), by rw [← HU.out]; exact G9.out, A9.out⟩
    · have HB := Lib.hid hb
      have HA := Lib.hid ha
      clear hb ha
      rcases hi with rfl | rfl
      all_goals go_wp2_with fail
      all_goals go_ret
      all_goals exact ⟨⟨_, rfl⟩, HB.out, HA.out⟩

set_option maxRecDepth 100000 in
set_option maxHeartbeats 1000000 in
theorem down3 (q g cap : Nat) (x y z : RdD) (rest : List Value) (w : World) (hq : Blk w q 64 [.slice (some ⟨g, 0, none⟩) 3 cap]) (hg : Blk w g 99 (rdFlat [x, y, z] ++ rest)) :
    Calls Tryz.prog 87 #[.iface 97 (.pointer (some ⟨q, 0, none⟩)), .int .i64 0, .int .i64 3] w fun e w' => (∃ r, e = .returned (.bool r)) ∧ Blk w' g 99 (rdFlat (downL [x, y, z]) ++ rest) ∧ Apart [g] w w' := by
  have q0 := hq.cell 0
  simp at q0
  go_enter Tryz.func87, Tryz.ntmps87
  go_wp2_with fail
  go_loopg [7] 1 (fun k i wr => (k = 1 ∧ i = .int .i64 0 ∧ wr = w) ∨ (k = 0 ∧ (i = .int .i64 1 ∨ i = .int .i64 2) ∧ Blk wr g 99 (rdFlat (downL [x, y, z]) ++ rest) ∧ Apart [g] w wr))
  case atStart => exact .inl ⟨rfl, rfl, rfl⟩
  case round =>
    rcases hrel with ⟨rfl, rfl, rfl⟩ | ⟨rfl, hi, hb, ha⟩
    · have m1 := meth_Less q _ _ _ _ q0
      have HG := Lib.hid hg
      have HQ := Lib.hid hq
      have HA := Lib.hid (Apart.refl [g] wr)
      clear hg hq
      have g8 := HG.out.cell 8
      have g11 := HG.out.cell 11
      have g4 := HG.out.cell 4
      have g7 := HG.out.cell 7
      simp [rdFlat, RdD.list] at g8 g11 g4 g7
      have HL := Lib.hid (rd_less g 3 cap 2 1 z y wr (by omega) (by omega) g8 g11 g4 g7)
      clear g8 g11 g4 g7
      go_wp2_with fail
      refine HL.out.mono ?_
      rintro e w5 ⟨rfl, b1⟩
      have G5 := Lib.hid (HG.out.below b1 HG.out.lt)
      have Q5 := Lib.hid (HQ.out.below b1 HQ.out.lt)
      have q5 := Q5.out.cell 0
      simp at q5
      have A5 := Lib.hid (HA.out.trans (Apart.of_below (fp := [g]) b1))
      clear b1 HL
      clear HG HQ HA q0 m1
      have m1 := meth_Less q _ _ _ _ q5
      cases hd : lessB z y with
      | false =>
        have HD := Lib.hid hd
        clear hd
        have g4 := G5.out.cell 4
        have g7 := G5.out.cell 7
        have g0 := G5.out.cell 0
        have g3 := G5.out.cell 3
        simp [rdFlat, RdD.list] at g4 g7 g0 g3
        have HL := Lib.hid (rd_less g 3 cap 1 0 y x w5 (by omega) (by omega) g4 g7 g0 g3)
        clear g4 g7 g0 g3
        go_wp2_with fail
        refine HL.out.mono ?_
        rintro e w6 ⟨rfl, b1⟩
        have G6 := Lib.hid (G5.out.below b1 G5.out.lt)
        have Q6 := Lib.hid (Q5.out.below b1 Q5.out.lt)
        have q6 := Q6.out.cell 0
        simp at q6
        have A6 := Lib.hid (A5.out.trans (Apart.of_below (fp := [g]) b1))
        clear b1 HL
        clear G5 Q5 A5
        cases hp : lessB y x with
        | false =>
          have HU := Lib.hid (show [x, y, z] = downL [x, y, z] by simp [downL, hp, HD.out])
          clear hp q6
          go_wp2_with fail
          go_ret
          exact ⟨⟨_, rfl⟩, by rw [← HU.out]; exact G6.out, A6.out⟩
        | true =>
          have HU := Lib.hid (show [y, x, z] = downL [x, y, z] by simp [downL, hp, HD.out])
          clear hp
          have m2 := meth_Swap q _ _ _ _ q6
          go_wp2_with fail
          refine (rd_swap31 g 3 cap x y z rest w6 (by omega) G6.out).mono ?_
          rintro e w9 ⟨rfl, k9, a9⟩
          have G9 := Lib.hid k9
          have A9 := Lib.hid (A6.out.trans a9)
          clear k9 a9
          go_wp2_with fail
          go_roundg 0
          case measure => omega
          case rel => exact .inr ⟨rfl, .inl (by go_num), by rw [← HU.out]; exact G9.out, A9.out⟩
      | true =>
        have HD := Lib.hid hd
        clear hd
        have g8 := G5.out.cell 8
        have g11 := G5.out.cell 11
        have g0 := G5.out.cell 0
        have g3 := G5.out.cell 3
        simp [rdFlat, RdD.list] at g8 g11 g0 g3
        have HL := Lib.hid (rd_less g 3 cap 2 0 z x w5 (by omega) (by omega) g8 g11 g0 g3)
        clear g8 g11 g0 g3
        go_wp2_with fail
        refine HL.out.mono ?_
        rintro e w6 ⟨rfl, b1⟩
        have G6 := Lib.hid (G5.out.below b1 G5.out.lt)
        have Q6 := Lib.hid (Q5.out.below b1 Q5.out.lt)
        have q6 := Q6.out.cell 0
        simp at q6
        have A6 := Lib.hid (A5.out.trans (Apart.of_below (fp := [g]) b1))
        clear b1 HL
        clear G5 Q5 A5
        cases hp : lessB z x with
        | false =>
          have HU := Lib.hid (show [x, y, z] = downL [x, y, z] by simp [downL, hp, HD.out])
          clear hp q6
          go_wp2_with fail
          go_ret
          exact ⟨⟨_, rfl⟩, by rw [← HU.out]; exact G6.out, A6.out⟩
        | true =>
          have HU := Lib.hid (show [z, y, x] = downL [x, y, z] by simp [downL, hp, HD.out])
          clear hp
          have m2 := meth_Swap q _ _ _ _ q6
          go_wp2_with fail
          refine (rd_swap32 g 3 cap x y z rest w6 (by omega) G6.out).mono ?_
          rintro e w9 ⟨rfl, k9, a9⟩
          have G9 := Lib.hid k9
          have A9 := Lib.hid (A6.out.trans a9)
          clear k9 a9
          go_wp2_with fail
          go_roundg 0
          case measure => omega
          case rel => exact .inr ⟨rfl, .inr (by go_num), by rw [← HU.out]; exact G9.out, A9.out⟩
    · have HB := Lib.hid hb
      have HA := Lib.hid ha
      clear hb ha
      rcases hi with rfl | rfl
      all_goals go_wp2_with fail
      all_goals go_ret
      all_goals exact ⟨⟨_, rfl⟩, HB.out, HA.out⟩

end Go.Proofs.YtpoojmodebgioaaGreatDoor.dat
