/-
  THE DRAWS: the contract of anyConfig: it answers some Config, in memory of its own, and writes nothing but the cursor and new memory.
  Condition: the cursor is one, and has been asked fewer than 2^35 times.
-/
import Derived.Test.YtpcekmllmnfmmaaDoorCurConf
namespace Go.Proofs.YtpcekmllmnfmmaaDoor.cur
open Go.RowKit Go.Proofs.YtpcekmllmnfmmaaDoor.win Go.Proofs.YtpcekmllmnfmmaaDoor.dat

/-- What anyConfig has on its way: a Config in block x; the answer's box at R. -/
def AnyAt (g : Nat) (a : Option Addr) (len cap m : Nat) (w : World) (lo x p q : Nat) (W : World) : Prop :=
  ∃ (c : ConfD) (wv mv : Value), Blk W x 52 [.int .i64 c.d, wv, mv, .int .i64 c.dl, .int .i64 c.lt] ∧ ConfAt lo c wv mv W ∧ (wv.ownBlock ≠ some x ∧ mv.ownBlock ≠ some x) ∧ (c.ws.length ≤ p ∧ c.ms.length ≤ q ∧ 1 ≤ c.ws.length) ∧ Blk W w.heap.size 52 [.int .i64 0, .slice none 0 0, .slice none 0 0, .int .i64 0, .int .i64 0] ∧ Curs g a len cap m W ∧ Only g w W ∧ lo ≤ W.heap.size
/-- A store into x. -/
theorem any_store {g : Nat} {a : Option Addr} {len cap m : Nat} {w : World} {lo x p q : Nat} {W : World} {L : List Value} (c : ConfD) (wv mv : Value) (hX : Blk W x 52 L) (hA : ConfAt lo c wv mv W) (hx : wv.ownBlock ≠ some x ∧ mv.ownBlock ≠ some x) (hb : c.ws.length ≤ p ∧ c.ms.length ≤ q ∧ 1 ≤ c.ws.length)
    (hK : Blk W w.heap.size 52 [.int .i64 0, .slice none 0 0, .slice none 0 0, .int .i64 0, .int .i64 0]) (hC : Curs g a len cap m W) (hO : Only g w W) (hlo : lo ≤ W.heap.size) (hxw : w.heap.size < x) (hg : g < w.heap.size) (i : Nat) (v : Value) (hL : L.set i v = [.int .i64 c.d, wv, mv, .int .i64 c.dl, .int .i64 c.lt]) : AnyAt g a len cap m w lo x p q (W.setCell ⟨x, i, none⟩ v) := by
  have hne : ∀ b, b ≠ x → (W.setCell ⟨x, i, none⟩ v).heap[b]? = W.heap[b]? := fun b hb => Below.heap_setCell _ _ _ b hb
  have hB : Below x W (W.setCell ⟨x, i, none⟩ v) := below_set _
  refine ⟨c, wv, mv, (hX.set i v).of_eq hL, ⟨hA.1.stay local_Win plain_win (fun b h => hne b (fun e => hx.1 (by rw [h, e]))), hA.2.1.stay local_int plain_int (fun b h => hne b (fun e => hx.2 (by rw [h, e]))), hA.2.2⟩, hx, hb, (hne _ (by omega)).trans hK, hC.belowB hB (by omega), hO.then_below hB (by omega), ?_⟩
  simp [World.setCell]; exact hlo
theorem AnyAt.only {g : Nat} {a : Option Addr} {len cap m m' : Nat} {w : World} {lo x p q : Nat} {W W' : World} (h : AnyAt g a len cap m w lo x p q W) (ho : Only g W W') (hc : Curs g a len cap m' W') (hg : g < w.heap.size) (hlo : g < lo) (hxg : x ≠ g) : AnyAt g a len cap m' w lo x p q W' := by
  obtain ⟨c, wv, mv, hX, hA, hx, hb, hK, hC, hO, hl⟩ := h
  exact ⟨c, wv, mv, (ho.block x hX.lt hxg).trans hX, ⟨hA.1.keep local_Win (fun b h1 h2 => ho.block b h2 (by omega)), hA.2.1.keep local_int (fun b h1 h2 => ho.block b h2 (by omega)), hA.2.2⟩, hx, hb, (ho.block _ hK.lt (by omega)).trans hK, hc, hO.trans ho, Nat.le_trans hl ho.size⟩

end Go.Proofs.YtpcekmllmnfmmaaDoor.cur
