/-
  THE CONTRACT OF l07Nums of the model: numerals, a blank ahead of each; nothing that was there is written.
-/
import Derived.Test.YtemefahhogdoaaaDoorNumsText
namespace Go.Proofs.YtemefahhogdoaaaDoor.dat
open Go.RowKit Go.Proofs.YtemefahhogdoaaaDoor.win
open Go.Proofs.YtemefahhogdoaaaDoor.num (Texted NumText_spec)

/-- A blank ahead of each. -/
def behind (l : List Int) : List UInt8 := Lib.joinTail [32] (l.map Lib.itoa)
theorem behind_succ {l : List Int} {j : Nat} {x : Int} (hx : l[j]? = some x) : behind (l.take (j + 1)) = behind (l.take j) ++ [32] ++ Lib.itoa x := by
  have : l.take (j + 1) = l.take j ++ [x] := by rw [List.take_add_one, hx]; rfl
  rw [this]
  simp [behind, Lib.joinTail]
theorem behind_len {l : List Int} (h : W64 l) : (behind l).length ≤ l.length * 22 := by
  have := joinTail_len (l := l.map Lib.itoa) (n := 21) (fun x hx => by
    obtain ⟨y, hy, rfl⟩ := List.mem_map.1 hx
    exact Lib.itoa_length_le _ (h y hy).1 (h y hy).2)
  simpa [behind] using this
theorem behind_take_len {l : List Int} (h : W64 l) (j : Nat) : (behind (l.take j)).length ≤ l.length * 22 := by
  have h1 := behind_len (l := l.take j) (fun x hx => h x (List.mem_of_mem_take hx))
  have h2 : (l.take j).length ≤ l.length := by simp; omega
  have h3 := Nat.mul_le_mul_right 22 h2
  omega

theorem cat_two_b (x y : List UInt8) (hx : x.length ≤ 1000000000) (hy : y.length ≤ 1000000000) (t u : ByteArray) (ht : t = ⟨x.toArray⟩) (hu : u = ⟨y.toArray⟩) : ∀ w, (Op.stringOp .add t u).run Tryd.prog w = .ok (.string (bstr (x ++ y))) w := by
  subst ht hu
  exact fun w => cat_two x y hx hy w

set_option maxRecDepth 100000 in
set_option maxHeartbeats 1000000 in
theorem l07Nums_spec (a : Option Addr) (len cap : Nat) (l : List Int) (fp : List Nat) (w : World) (hl0 : len ≤ 2000000) (hrow : GRow 1 RInt w a len l fp) (hw : W64 l) :
    Calls Tryd.prog 23 #[.slice a len cap] w (Texted (behind l) w) := by
  have HL := Lib.hid hrow.1
  have HR := Lib.hid hrow
  have HW := Lib.hid hw
  clear hrow hw
  go_enter Tryd.func23, Tryd.ntmps23
  go_wp2_with fail
  go_loopg [3, 4] len (fun k v i wr => ∃ j : Nat, j + k = len ∧ i = .int .i64 j ∧ v = .string (bstr (behind (l.take j))) ∧ Below w.heap.size w wr)
  case atStart => exact ⟨0, by omega, rfl, rfl, Below.refl _ _⟩
  case round =>
    obtain ⟨j, hj, rfl, rfl, hB⟩ := hrel
    have HB := Lib.hid hB
    have hpl := behind_take_len HW.out j
    rw [HL.out] at hpl
    have hc1 := cat_two_b (behind (l.take j)) [32] (by omega) (by simp) (bstr (behind (l.take j))) ⟨#[32]⟩ rfl rfl
    by_cases hlt : j < len
    · obtain ⟨b, off, x, f, cs, hab, hbl, hx, hcl, hRx, hcc⟩ := HR.out.at hlt
      obtain ⟨rfl, rfl⟩ := hRx
      have hcell : wr.cell? ⟨b, off + j, none⟩ = some (.int .i64 x) := by
        have := (hB.cell (p := ⟨b, off + j * 1 + 0, none⟩) hbl).trans (hcc 0 (by omega))
        simpa using this
      subst hab
      have hlt2 : (j : Int) < (len : Int) := by omega
      have h02 : (0 : Int) ≤ (j : Int) := by omega
      have hxb := HW.out x (List.mem_of_getElem? hx)
      have hitl := Lib.itoa_length_le x hxb.1 hxb.2
      have hc2 := cat_two_b (behind (l.take j) ++ [32]) (Lib.itoa x) (by simp; omega) (by omega) (bstr (behind (l.take j) ++ [32])) ⟨(Lib.itoa x).toArray⟩ rfl rfl
      rw [← behind_succ hx] at hc2
      have h1 := Lib.hid hxb
      clear hB hx hcc hxb
      go_wp2_with fail
      refine (NumText_spec x _ h1.out.1 h1.out.2).mono ?_
      rintro e' w3 ⟨rfl, b3⟩
      have H33 := Lib.hid (HB.out.trans (b3.mono HB.out.size))
      clear b3 hcell
      go_wp2_with fail
      go_roundg (len - (j + 1))
      case measure => omega
      case rel => exact ⟨j + 1, by omega, by go_num, rfl, H33.out⟩
    · have hlt2 : ¬ (j : Int) < (len : Int) := by omega
      have hje : j = len := by omega
      have ht : l.take j = l := by rw [hje, ← HL.out]; exact List.take_length
      rw [ht]
      clear hc1 hB ht
      go_wp2_with fail
      go_ret
      exact ⟨rfl, HB.out⟩
end Go.Proofs.YtemefahhogdoaaaDoor.dat
