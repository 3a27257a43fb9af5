/-
  THE DRAWS: the contract of DrawAggText: some aggregate's numbers, whatever the code; nothing that was there is written.
  Condition: the code is a slice of bytes, at most 2,000,000 of them.
-/
import Derived.Test.YthldfaapckhcpaaDoorDrawJoin
import Derived.Test.YthldfaapckhcpaaDoorSpecRead
namespace Go.Proofs.YthldfaapckhcpaaDoor.cur
open Go.RowKit
open Go.Proofs.YthldfaapckhcpaaDoor.agg (Q okB Own4 own_alloc zero)
open Go.Proofs.YthldfaapckhcpaaDoor.num (spec_AggText aggText str four_short)

/-- What DrawAggText answers, and what it leaves. -/
def One (w : World) (e : Ending) (w' : World) : Prop :=
  ∃ q : Q, e = .returned (.agg #[.int .i64 q.n, .int .i64 q.s, .int .i64 q.mn, .int .i64 q.mx]) ∧ Below w.heap.size w w'

set_option maxHeartbeats 400000 in
set_option maxRecDepth 100000 in
theorem DrawAggText_any (a : Option Addr) (len cap : Nat) (w : World) (hle : len ≤ 2000000) (hcode : Code w a len) :
    Calls Tryd.prog 8 #[.slice a len cap] w (One w) := by
  have HK := Lib.hid hcode
  clear hcode
  go_enter Tryd.func8, Tryd.ntmps8
  go_wp2_with fail
  have hB0 : Below w.heap.size w (w.alloc (.cells #[.int .i64 0, .int .i64 0, .int .i64 0, .int .i64 0] 25)) := (Below.refl _ _).alloc (Nat.le_refl _) _
  have hO0 := own_alloc w zero 25
  have s0 : (w.alloc (.cells #[.int .i64 0, .int .i64 0, .int .i64 0, .int .i64 0] 25)).heap.size = w.heap.size + 1 := by simp
  have HO0 : Hid (Own4 (w.alloc (.cells #[.int .i64 0, .int .i64 0, .int .i64 0, .int .i64 0] 25)) w.heap.size zero) := hO0
  have HS0 := Lib.hid s0
  clear hO0 s0
  generalize w.alloc (.cells #[.int .i64 0, .int .i64 0, .int .i64 0, .int .i64 0] 25) = w0 at *
  have HB0 := Lib.hid hB0
  have HK0 := Lib.hid (HK.out.below hB0)
  clear hB0
  refine (l01Open_any _ _ _ _ hle).mono ?_
  rintro e w1 ⟨rfl, rfl⟩
  have H1 := Lib.hid (curs_open (cap := cap) hle HK0.out)
  have HO1 : Hid (Below w0.heap.size w0 (w0.alloc (.cells #[.slice a len cap, .int .i64 0, .int .i64 (71 + (len : Int) % 1000)] 56))) := (Below.refl _ _).alloc (Nat.le_refl _) _
  generalize w0.alloc (.cells #[.slice a len cap, .int .i64 0, .int .i64 (71 + (len : Int) % 1000)] 56) = w1 at *
  go_wp2_with fail
  refine (agg_any _ _ _ _ 0 _ (by omega) H1.out).mono ?_
  rintro e w2 ⟨q, rfl, hc2, ho2⟩
  have o2 : Only w0.heap.size w0 w2 := (Only.of_below HO1.out).trans ho2
  have s0 := HS0.out
  have hO2 := Own4.only HO0.out o2 (by omega) (by omega)
  have HB2 := Lib.hid (HB0.out.trans (o2.below (B := w.heap.size) (by omega) (by omega)))
  clear s0
  obtain ⟨⟨r0, r1, r2, r3⟩, rf⟩ := hO2
  simp only [zero] at r0 r1 r2 r3
  clear hc2 ho2 o2
  go_wp2_with fail
  refine bodyPost_ret (v := .agg #[.int .i64 q.n, .int .i64 q.s, .int .i64 q.mn, .int .i64 q.mx]) (by simp [results, Tryd.results8, go_sem, r0, r1, r2, r3]) rfl ⟨q, rfl, HB2.out.trans (agg.below_set4 _ _ _ _)⟩

theorem aggText_short (n s mn mx : Int) : (aggText n s mn mx).length ≤ 50 := by
  unfold aggText
  split
  · rename_i h
    obtain ⟨h0, h1, h2, h3⟩ := four_short h
    simp; omega
  · simp

/-- One of the five texts, by its place. -/
def sel5 (r : Int) : ByteArray := if r = 0 then ⟨#[32]⟩ else if r = 1 then ⟨#[48]⟩ else if r = 2 then ⟨#[45]⟩ else if r = 3 then ⟨#[120]⟩ else ⟨#[49]⟩
theorem sel5_size (r : Int) : (sel5 r).size = 1 := by
  unfold sel5
  repeat' split
  all_goals rfl
theorem sel5_arr (r : Int) (h0 : 0 ≤ r) (h1 : r < 5) : (#[Value.string ⟨#[32]⟩, .string ⟨#[48]⟩, .string ⟨#[45]⟩, .string ⟨#[120]⟩, .string ⟨#[49]⟩] : Array Value)[r.toNat]? = some (.string (sel5 r)) := by
  have : r = 0 ∨ r = 1 ∨ r = 2 ∨ r = 3 ∨ r = 4 := by omega
  rcases this with rfl | rfl | rfl | rfl | rfl <;> simp [sel5]
theorem sel5_cell (w : World) (t : TypeId) (r : Int) (h0 : 0 ≤ r) (h1 : r < 5) : (w.alloc (.cells #[.string ⟨#[32]⟩, .string ⟨#[48]⟩, .string ⟨#[45]⟩, .string ⟨#[120]⟩, .string ⟨#[49]⟩] t)).cell? ⟨w.heap.size, r.toNat, none⟩ = some (.string (sel5 r)) := by
  have : r = 0 ∨ r = 1 ∨ r = 2 ∨ r = 3 ∨ r = 4 := by omega
  rcases this with rfl | rfl | rfl | rfl | rfl <;> simp [go_sem, sel5]

def Text (w : World) (e : Ending) (w' : World) : Prop := ∃ t : ByteArray, e = .returned (.string t) ∧ t.size ≤ 1000 ∧ Below w.heap.size w w'

end Go.Proofs.YthldfaapckhcpaaDoor.cur
