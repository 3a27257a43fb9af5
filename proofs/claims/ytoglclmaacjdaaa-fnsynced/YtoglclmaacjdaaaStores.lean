/-
  A FILE AT WORK (program): put, add, sync, crash under its lock: its own block alone is written.
-/
import Derived.Test.YtoglclmaacjdaaaMount3
import Derived.Test.YtoglclmaacjdaaaSurvives
namespace Go.Proofs.Ytoglclmaacjdaaa.dat
open Go.RowKit Go.Proofs.Ytoglclmaacjdaaa.win
open Go.MuLone

/-- What a method on a file leaves. -/
def Left1 (b : Nat) (x : FileD) (v : Value) (w : World) (e : Ending) (w' : World) : Prop := e = .returned v ∧ Apart [b] w w' ∧ Blk w' b 101 (Named.list x)

set_option maxRecDepth 100000 in
set_option maxHeartbeats 2000000 in
theorem sync_ (x : FileD) (b : Nat) (w : World) (hb : Blk w b 101 (Named.list x)) :
    Calls Try.prog 53 #[.pointer (some ⟨b, 1, none⟩)] w (Left1 b ⟨x.name, x.now, x.now⟩ (.tuple #[]) w) := by
  have HB := Lib.hid hb
  have c1 := hb.cell 1
  have c3 := hb.cell 3
  have c4 := hb.cell 4
  have fb := hb.frozen
  simp [Named.list] at c1 c3 c4
  clear hb
  go_enter_defers Try.func53, Try.ntmps53
  go_wp2_with fail
  refine (lock_free muLib ⟨b, 1, none⟩ w c1 (fb 1)).mono ?_
  rintro e w1 ⟨rfl, rfl⟩
  go_wp2_with fail
  refine door_gen (fun W2 => Apart [b] w W2 ∧ Blk W2 b 101 (Held.list ⟨x.name, x.now, x.now⟩)) ⟨?_, ?_⟩ ?_
  · repeat (first | exact Apart.refl _ _ | refine Apart.setCell ?_ (by simp) _ _)
  · exact (HB.out.set 1 _).set 3 _
  clear HB c1 c3 c4 fb
  rintro W2 ⟨aw, kb⟩
  refine leaves_cons (f := 99) (args := #[.pointer (some ⟨b, 1, none⟩)]) (by simp) (by simp [go_sem]) ?_
  refine (unlock_deferred muLib ⟨b, 1, none⟩ .returning W2 (by simpa [Held.list] using kb.cell 1) (kb.frozen 1)).mono ?_
  rintro e u' w'' ⟨rfl, rfl, rfl⟩
  exact ⟨_, results_none rfl _ _ _, rfl, aw.setCell (by simp) _ _, kb.set 1 (.int .i32 0)⟩

theorem write_yes (s old : ByteArray) (b : Nat) (w : World) (hs : s.size ≤ 200000) (hc : w.cell? ⟨b, 4, none⟩ = some (.string old)) (hf : w.frozen? ⟨b, 4, none⟩ = false) :
    Calls Try.prog 103 #[.pointer (some ⟨b, 1, none⟩), .string s] w fun e w' => e = .returned (.bool true) ∧ w' = w.setCell ⟨b, 4, none⟩ (.string s) := by
  have HS := Lib.hid (show decide (s.size ≤ 200000) = true by simp [hs])
  go_enter Try.func103, Try.ntmps103
  go_wp2_with fail
  refine (textFits_ s true HS.out w).mono ?_
  rintro e w' ⟨rfl, rfl⟩
  go_wp2_with fail
  go_ret
  exact ⟨rfl, rfl⟩
theorem write_no (s : ByteArray) (b : Nat) (w : World) (hs : ¬ s.size ≤ 200000) :
    Calls Try.prog 103 #[.pointer (some ⟨b, 1, none⟩), .string s] w fun e w' => e = .returned (.bool false) ∧ w' = w := by
  have HS := Lib.hid (show decide (s.size ≤ 200000) = false by simp [hs])
  go_enter Try.func103, Try.ntmps103
  go_wp2_with fail
  refine (textFits_ s false HS.out w).mono ?_
  rintro e w' ⟨rfl, rfl⟩
  go_wp2_with fail
  go_ret
  exact ⟨rfl, rfl⟩

set_option maxRecDepth 100000 in
set_option maxHeartbeats 2000000 in
theorem put_yes (x : FileD) (s : ByteArray) (b : Nat) (w : World) (hb : Blk w b 101 (Named.list x)) (hs : s.size ≤ 200000) :
    Calls Try.prog 66 #[.pointer (some ⟨b, 1, none⟩), .string s] w (Left1 b ⟨x.name, x.safe, s⟩ (.bool true) w) := by
  have HB := Lib.hid hb
  have c1 := hb.cell 1
  have fb := hb.frozen
  simp [Named.list] at c1
  clear hb
  have K1 := Lib.hid (show Blk (w.setCell ⟨b, 1, none⟩ (.int .i32 1)) b 101 (Held.list x) from HB.out.set 1 _)
  go_enter_defers Try.func66, Try.ntmps66
  go_wp2_with fail
  refine (lock_free muLib ⟨b, 1, none⟩ w c1 (fb 1)).mono ?_
  rintro e w1 ⟨rfl, rfl⟩
  go_wp2_with fail
  refine (write_yes s x.now b _ hs (by simpa [Held.list] using K1.out.cell 4) (K1.out.frozen 4)).mono ?_
  rintro e w2 ⟨rfl, rfl⟩
  go_wp2_with fail
  refine door_gen (fun W2 => Apart [b] w W2 ∧ Blk W2 b 101 (Held.list ⟨x.name, x.safe, s⟩)) ⟨?_, ?_⟩ ?_
  · repeat (first | exact Apart.refl _ _ | refine Apart.setCell ?_ (by simp) _ _)
  · exact K1.out.set 4 _
  clear HB c1 fb K1
  rintro W2 ⟨aw, kb⟩
  refine leaves_cons (f := 99) (args := #[.pointer (some ⟨b, 1, none⟩)]) (by simp) (by simp [go_sem]) ?_
  refine (unlock_deferred muLib ⟨b, 1, none⟩ .returning W2 (by simpa [Held.list] using kb.cell 1) (kb.frozen 1)).mono ?_
  rintro e u' w'' ⟨rfl, rfl, rfl⟩
  exact ⟨_, results_tmp rfl _ _ _, rfl, aw.setCell (by simp) _ _, kb.set 1 (.int .i32 0)⟩
set_option maxRecDepth 100000 in
set_option maxHeartbeats 2000000 in
theorem put_no (x : FileD) (s : ByteArray) (b : Nat) (w : World) (hb : Blk w b 101 (Named.list x)) (hs : ¬ s.size ≤ 200000) :
    Calls Try.prog 66 #[.pointer (some ⟨b, 1, none⟩), .string s] w (Left1 b x (.bool false) w) := by
  have HB := Lib.hid hb
  have c1 := hb.cell 1
  have fb := hb.frozen
  simp [Named.list] at c1
  clear hb
  go_enter_defers Try.func66, Try.ntmps66
  go_wp2_with fail
  refine (lock_free muLib ⟨b, 1, none⟩ w c1 (fb 1)).mono ?_
  rintro e w1 ⟨rfl, rfl⟩
  go_wp2_with fail
  refine (write_no s b _ hs).mono ?_
  rintro e w2 ⟨rfl, rfl⟩
  go_wp2_with fail
  refine door_gen (fun W2 => Apart [b] w W2 ∧ Blk W2 b 101 (Held.list x)) ⟨?_, ?_⟩ ?_
  · repeat (first | exact Apart.refl _ _ | refine Apart.setCell ?_ (by simp) _ _)
  · exact HB.out.set 1 _
  clear HB c1 fb
  rintro W2 ⟨aw, kb⟩
  refine leaves_cons (f := 99) (args := #[.pointer (some ⟨b, 1, none⟩)]) (by simp) (by simp [go_sem]) ?_
  refine (unlock_deferred muLib ⟨b, 1, none⟩ .returning W2 (by simpa [Held.list] using kb.cell 1) (kb.frozen 1)).mono ?_
  rintro e u' w'' ⟨rfl, rfl, rfl⟩
  exact ⟨_, results_tmp rfl _ _ _, rfl, aw.setCell (by simp) _ _, kb.set 1 (.int .i32 0)⟩

set_option maxRecDepth 100000 in
set_option maxHeartbeats 2000000 in
theorem add_no (x : FileD) (s : ByteArray) (b : Nat) (w : World) (hb : Blk w b 101 (Named.list x)) (hn : x.now.size ≤ 200000) (hs : ¬ (s.size ≤ 200000 ∧ (x.now ++ s).size ≤ 200000)) :
    Calls Try.prog 58 #[.pointer (some ⟨b, 1, none⟩), .string s] w (Left1 b x (.bool false) w) := by
  have HB := Lib.hid hb
  have c1 := hb.cell 1
  have fb := hb.frozen
  simp [Named.list] at c1
  clear hb
  have K1 := Lib.hid (show Blk (w.setCell ⟨b, 1, none⟩ (.int .i32 1)) b 101 (Held.list x) from HB.out.set 1 _)
  obtain ⟨r, hr⟩ : ∃ r, decide (s.size ≤ 200000) = r := ⟨_, rfl⟩
  have HRR := Lib.hid hr
  have HSS := Lib.hid hs
  clear hr hs
  go_enter_defers Try.func58, Try.ntmps58
  go_wp2_with fail
  refine (lock_free muLib ⟨b, 1, none⟩ w c1 (fb 1)).mono ?_
  rintro e w1 ⟨rfl, rfl⟩
  go_wp2_with fail
  refine (textFits_ s r HRR.out _).mono ?_
  rintro e w2 ⟨rfl, rfl⟩
  cases r with
  | false =>
    go_wp2_with fail
    refine door_gen (fun W2 => Apart [b] w W2 ∧ Blk W2 b 101 (Held.list x)) ⟨?_, ?_⟩ ?_
    · repeat (first | exact Apart.refl _ _ | refine Apart.setCell ?_ (by simp) _ _)
    · exact HB.out.set 1 _
    clear HB c1 fb
    rintro W2 ⟨aw, kb⟩
    refine leaves_cons (f := 99) (args := #[.pointer (some ⟨b, 1, none⟩)]) (by simp) (by simp [go_sem]) ?_
    refine (unlock_deferred muLib ⟨b, 1, none⟩ .returning W2 (by simpa [Held.list] using kb.cell 1) (kb.frozen 1)).mono ?_
    rintro e u' w'' ⟨rfl, rfl, rfl⟩
    exact ⟨_, results_tmp rfl _ _ _, rfl, aw.setCell (by simp) _ _, kb.set 1 (.int .i32 0)⟩
  | true =>
    have hs1 : s.size ≤ 200000 := by simpa using HRR.out
    have HS2 := Lib.hid (show ¬ (x.now ++ s).size ≤ 200000 from fun h => HSS.out ⟨hs1, h⟩)
    have hsm : ¬ 9223372036854775807 < x.now.size + s.size := by omega
    have c4 := K1.out.cell 4
    simp [Held.list] at c4
    go_wp2_with fail
    refine (write_no _ b _ HS2.out).mono ?_
    rintro e w2 ⟨rfl, rfl⟩
    go_wp2_with fail
    refine door_gen (fun W2 => Apart [b] w W2 ∧ Blk W2 b 101 (Held.list x)) ⟨?_, ?_⟩ ?_
    · repeat (first | exact Apart.refl _ _ | refine Apart.setCell ?_ (by simp) _ _)
    · exact HB.out.set 1 _
    clear HB c1 fb c4
    rintro W2 ⟨aw, kb⟩
    refine leaves_cons (f := 99) (args := #[.pointer (some ⟨b, 1, none⟩)]) (by simp) (by simp [go_sem]) ?_
    refine (unlock_deferred muLib ⟨b, 1, none⟩ .returning W2 (by simpa [Held.list] using kb.cell 1) (kb.frozen 1)).mono ?_
    rintro e u' w'' ⟨rfl, rfl, rfl⟩
    exact ⟨_, results_tmp rfl _ _ _, rfl, aw.setCell (by simp) _ _, kb.set 1 (.int .i32 0)⟩
set_option maxRecDepth 100000 in
set_option maxHeartbeats 2000000 in
theorem add_yes (x : FileD) (s : ByteArray) (b : Nat) (w : World) (hb : Blk w b 101 (Named.list x)) (hn : x.now.size ≤ 200000) (hs1 : s.size ≤ 200000) (hs2 : (x.now ++ s).size ≤ 200000) :
    Calls Try.prog 58 #[.pointer (some ⟨b, 1, none⟩), .string s] w (Left1 b ⟨x.name, x.safe, x.now ++ s⟩ (.bool true) w) := by
  have HB := Lib.hid hb
  have c1 := hb.cell 1
  have fb := hb.frozen
  simp [Named.list] at c1
  clear hb
  have K1 := Lib.hid (show Blk (w.setCell ⟨b, 1, none⟩ (.int .i32 1)) b 101 (Held.list x) from HB.out.set 1 _)
  have HRR := Lib.hid (show decide (s.size ≤ 200000) = true by simp [hs1])
  have HS2 := Lib.hid hs2
  have hsm : ¬ 9223372036854775807 < x.now.size + s.size := by omega
  clear hs2
  have c4 := K1.out.cell 4
  simp [Held.list] at c4
  go_enter_defers Try.func58, Try.ntmps58
  go_wp2_with fail
  refine (lock_free muLib ⟨b, 1, none⟩ w c1 (fb 1)).mono ?_
  rintro e w1 ⟨rfl, rfl⟩
  go_wp2_with fail
  refine (textFits_ s true HRR.out _).mono ?_
  rintro e w2 ⟨rfl, rfl⟩
  go_wp2_with fail
  refine (write_yes _ x.now b _ HS2.out c4 (K1.out.frozen 4)).mono ?_
  rintro e w2 ⟨rfl, rfl⟩
  go_wp2_with fail
  refine door_gen (fun W2 => Apart [b] w W2 ∧ Blk W2 b 101 (Held.list ⟨x.name, x.safe, x.now ++ s⟩)) ⟨?_, ?_⟩ ?_
  · repeat (first | exact Apart.refl _ _ | refine Apart.setCell ?_ (by simp) _ _)
  · exact K1.out.set 4 _
  clear HB c1 fb c4
  rintro W2 ⟨aw, kb⟩
  refine leaves_cons (f := 99) (args := #[.pointer (some ⟨b, 1, none⟩)]) (by simp) (by simp [go_sem]) ?_
  refine (unlock_deferred muLib ⟨b, 1, none⟩ .returning W2 (by simpa [Held.list] using kb.cell 1) (kb.frozen 1)).mono ?_
  rintro e u' w'' ⟨rfl, rfl, rfl⟩
  exact ⟨_, results_tmp rfl _ _ _, rfl, aw.setCell (by simp) _ _, kb.set 1 (.int .i32 0)⟩

theorem survD_name (x : FileD) (n : ByteArray) (cut : Int) : survD ⟨n, x.safe, x.now⟩ cut = survD x cut := rfl
set_option maxRecDepth 100000 in
set_option maxHeartbeats 2000000 in
theorem crash_ (x : FileD) (cut : Int) (b : Nat) (w : World) (hb : Blk w b 101 (Named.list x)) (h1 : x.safe.size ≤ 1048576) (h2 : x.now.size ≤ 1048576) :
    Calls Try.prog 60 #[.pointer (some ⟨b, 1, none⟩), .int .i64 cut] w (Left1 b (crashF x cut) (.tuple #[]) w) := by
  have HB := Lib.hid hb
  have c1 := hb.cell 1
  have fb := hb.frozen
  simp [Named.list] at c1
  clear hb
  have K1 := Lib.hid (show Blk (w.setCell ⟨b, 1, none⟩ (.int .i32 1)) b 101 (Held.list x) from HB.out.set 1 _)
  have A1 := Lib.hid (show Apart [b] w (w.setCell ⟨b, 1, none⟩ (.int .i32 1)) from (Apart.refl _ _).setCell (by simp) _ _)
  obtain ⟨r, hr⟩ : ∃ r, survD x cut = r := ⟨_, rfl⟩
  have HR := Lib.hid hr
  have HI := Lib.hid (fun W => impl_Survives ⟨⟨#[]⟩, x.safe, x.now⟩ cut W h1 h2)
  rw [survD_name, hr] at HI
  clear hr
  have E := Lib.hid (show crashF x cut = ⟨x.name, r, r⟩ by rw [crashF, HR.out])
  rw [E.out]
  simp only [File.list] at HI
  go_enter_defers Try.func60, Try.ntmps60
  go_wp2_with fail
  refine (lock_free muLib ⟨b, 1, none⟩ w c1 (fb 1)).mono ?_
  rintro e w1 ⟨rfl, rfl⟩
  go_wp2_with fail
  refine wp_gen (fun W1 => Apart [b] w W1 ∧ Blk W1 b 101 (Held.list x)) ⟨A1.out, K1.out⟩ ?_
  clear A1 K1 c1 fb
  rintro W1 ⟨aw, kb⟩
  have c3 := kb.cell 3
  have c4 := kb.cell 4
  simp [Held.list] at c3 c4
  have AW := Lib.hid aw
  have KB := Lib.hid kb
  have hlt := kb.lt
  clear aw kb
  refine wp_region_mixn (fun w' => w'.cell? ⟨b, 3, none⟩ = some (.string x.safe) ∧ w'.cell? ⟨b, 4, none⟩ = some (.string x.now)) [10] (by kernel_rfl) (by kernel_rfl) ⟨c3, c4⟩ ?_
  (repeat (first | (apply mix.held_take; (· rfl); (· rfl); (· (intro w' hSw; (try dsimp only at hSw); go_simp; try with_reducible rfl)); (try simp only [Act.put, List.setIfInBounds_toArray, List.set_cons_zero, List.set_cons_succ])) | ((refine mix.held_pass rfl (by rfl) ?_); (try simp only [Act.put, List.setIfInBounds_toArray, List.set_cons_zero, List.set_cons_succ]))))
  refine mix.held_hard rfl (fun K hK => ?_); go_simp
  refine (HI.out W1.drew).mono ?_
  rintro e W2 ⟨rfl, b2⟩
  have b2' : Below W1.heap.size W1 W2 := (show Below W1.heap.size W1 W1.drew by repeat (first | exact Below.refl _ _ | refine Below.setCell ?_ (by first | omega | (simp; done) | (simp; omega)) _ | refine Below.alloc ?_ (by first | omega | (simp; done) | (simp; omega)) _ | apply Below.drew)).trans b2
  have K2 := Lib.hid (KB.out.below b2' hlt)
  have A2 := Lib.hid (AW.out.trans (Apart.of_below b2'))
  have d3 := (b2'.cell (p := ⟨b, 3, none⟩) hlt).trans c3
  have d4 := (b2'.cell (p := ⟨b, 4, none⟩) hlt).trans c4
  have f2 := K2.out.frozen
  clear b2 b2' KB AW c3 c4
  refine hK.out _ _ (⟨d3, d4⟩) (fun hSw => ?_); clear hK K hSw; (try simp only [Act.put, List.setIfInBounds_toArray, List.set_cons_zero, List.set_cons_succ])
  (repeat (first | (apply mix.held_take; (· rfl); (· rfl); (· (intro w' hSw; (try dsimp only at hSw); go_simp; try with_reducible rfl)); (try simp only [Act.put, List.setIfInBounds_toArray, List.set_cons_zero, List.set_cons_succ])) | ((refine mix.held_pass rfl (by rfl) ?_); (try simp only [Act.put, List.setIfInBounds_toArray, List.set_cons_zero, List.set_cons_succ]))))
  refine mix.held_end ?_
  refine onlyN ?_
  go_wp2_with fail
  refine door_gen (fun W3 => Apart [b] w W3 ∧ Blk W3 b 101 (Held.list ⟨x.name, r, r⟩)) ⟨?_, ?_⟩ ?_
  · repeat (first | exact A2.out | refine Apart.setCell ?_ (by simp) _ _)
  · exact (K2.out.set 3 _).set 4 _
  clear A2 K2 d3 d4 f2
  rintro W3 ⟨aw, kb⟩
  refine leaves_cons (f := 99) (args := #[.pointer (some ⟨b, 1, none⟩)]) (by simp) (by simp [go_sem]) ?_
  refine (unlock_deferred muLib ⟨b, 1, none⟩ .returning W3 (by simpa [Held.list] using kb.cell 1) (kb.frozen 1)).mono ?_
  rintro e u' w'' ⟨rfl, rfl, rfl⟩
  exact ⟨_, results_none rfl _ _ _, rfl, aw.setCell (by simp) _ _, kb.set 1 (.int .i32 0)⟩
end Go.Proofs.Ytoglclmaacjdaaa.dat
