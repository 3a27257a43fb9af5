/-
  THE NOTIONS OF DATA AND THE ELDER ONES: rows of numbers and windows; ConfigOk of the program and of the model over a Config as data.
-/
import Derived.Test.YtoglclmaacjdaaaConfOk
import Derived.Test.YtoglclmaacjdaaaSpecConf
import Derived.Test.YtoglclmaacjdaaaDataEvents
namespace Go.Proofs.Ytoglclmaacjdaaa.dat
open Go.RowKit Go.Proofs.Ytoglclmaacjdaaa.win

theorem row_of {w : World} {a : Option Addr} {len : Nat} {l : List Int} {fp : List Nat} (h : GRow 1 RInt w a len l fp) : Row w a len l :=
  ⟨h.1, fun h0 => by
    obtain ⟨h1, ⟨h2, _⟩ | ⟨b, off, F, e, hb, rfl, hF, hx⟩⟩ := h
    · omega
    refine ⟨b, off, e, hb, fun i hi => ?_⟩
    obtain ⟨cs, _, ⟨rfl, _⟩, h4⟩ := hx i l[i] F[i] (List.getElem?_eq_getElem (by omega)) (List.getElem?_eq_getElem (by omega))
    have := h4 0 (by omega)
    simp only [Nat.mul_one, Nat.add_zero] at this
    rw [this, List.getD_eq_getElem?_getD, List.getElem?_eq_getElem (show i < l.length by omega)]
    rfl⟩
theorem wrow_of {w : World} {a : Option Addr} {len : Nat} {l : List (Int × Int)} {fp : List Nat} (h : GRow 2 RWin w a len l fp) : WRow w a len l :=
  ⟨h.1, fun h0 => by
    obtain ⟨h1, ⟨h2, _⟩ | ⟨b, off, F, e, hb, rfl, hF, hx⟩⟩ := h
    · omega
    refine ⟨b, off, e, hb, fun i hi => ?_⟩
    obtain ⟨cs, _, ⟨rfl, _⟩, h4⟩ := hx i l[i] F[i] (List.getElem?_eq_getElem (by omega)) (List.getElem?_eq_getElem (by omega))
    have k0 := h4 0 (by omega)
    have k1 := h4 1 (by omega)
    simp only [Nat.add_zero] at k0
    rw [k0, k1, List.getD_eq_getElem?_getD, List.getElem?_eq_getElem (show i < l.length by omega)]
    exact ⟨rfl, rfl⟩⟩

def cfOf (x : ConfD) (h : ConfigH) : Cf := ⟨x.d, h.wsa, h.wsl, h.wsc, h.msa, h.msl, h.msc, x.dl, x.lt⟩
theorem cfOf_cells (x : ConfD) (h : ConfigH) : (cfOf x h).cells = (Config.list x h).toArray := rfl
theorem in_of {w : World} {x : ConfD} {h : ConfigH} {fp : List Nat} (hi : Config.Is w x h fp) : (cfOf x h).In w x.ws x.ms := by
  obtain ⟨f0, f1, rfl, r0, _, _, r1, _, _⟩ := hi
  exact ⟨wrow_of r0, row_of r1⟩
/-- ConfigOk. -/
def confD (x : ConfD) : Bool := upB x.d 3 && winsB x.ws && masksB x.d x.ms && upB x.dl 1000 && upB x.lt 1000
theorem confD_of (x : ConfD) (h : ConfigH) : confB (cfOf x h) x.ws x.ms = confD x := rfl
theorem impl_Conf (x : ConfD) (h : ConfigH) (fp : List Nat) (w : World) (hi : Config.Is w x h fp) :
    Calls Try.prog 141 #[.agg (Config.list x h).toArray] w fun e w' => e = .returned (.bool (confD x)) ∧ Below w.heap.size w w' := by
  have hin := in_of hi
  obtain ⟨f0, f1, rfl, r0, u0, _, r1, u1, _⟩ := hi
  exact impl_ConfigOk (cfOf x h) x.ws x.ms w u0 u1 hin
theorem spec_Conf (x : ConfD) (h : ConfigH) (fp : List Nat) (w : World) (hi : Config.Is w x h fp) :
    Calls Try.prog 75 #[.agg (Config.list x h).toArray] w fun e w' => e = .returned (.bool (confD x)) ∧ Below w.heap.size w w' := by
  have hin := in_of hi
  obtain ⟨f0, f1, rfl, r0, u0, v0, r1, u1, v1⟩ := hi
  exact spec_ConfigOk (cfOf x h) x.ws x.ms w (Nat.le_trans u0 v0) (Nat.le_trans u1 v1) hin
end Go.Proofs.Ytoglclmaacjdaaa.dat
