/-
  DATA: File, []File, Disk: the notions; THE CONTRACTS OF the laws' own functions (copies, sizes, equality) over them. Written by tools/gendata.py.
-/
import Derived.Test.YtoglclmaacjdaaaDataInts
namespace Go.Proofs.Ytoglclmaacjdaaa.dat
open Go.RowKit Go.Proofs.Ytoglclmaacjdaaa.win
set_option linter.unusedVariables false

structure FileD where
  name : ByteArray
  safe : ByteArray
  now : ByteArray
def File.list (x : FileD) : List Value := [.string x.name, .string x.safe, .string x.now]
def RFile : Rel FileD := fun _ cs x fp => cs = File.list x ∧ x.name.size ≤ 9223372036854775807 ∧ x.safe.size ≤ 9223372036854775807 ∧ x.now.size ≤ 9223372036854775807 ∧ fp = []
theorem local_File : Local RFile := ⟨fun h _ => h, fun h b hb => by rw [h.2.2.2.2] at hb; simp at hb⟩
def File.sz (x : FileD) : Nat := x.name.size + x.safe.size + x.now.size

theorem info_File : (Try.prog.info? 40).map (fun i => (i.zero, i.size, i.bytes)) = some (some (.agg #[.string ByteArray.empty, .string ByteArray.empty, .string ByteArray.empty]), 3, 48) := by kernel_rfl
structure DiskD where
  files : List FileD
/-- The slices' own cells. -/
structure DiskH where
  filesa : Option Addr
  filesl : Nat
  filesc : Nat
def Disk.list (x : DiskD) (h : DiskH) : List Value := [.slice h.filesa h.filesl h.filesc]
def Disk.Is (w : World) (x : DiskD) (h : DiskH) (fp : List Nat) : Prop := ∃ f0 : List Nat, fp = f0 ∧ GRow 3 RFile w h.filesa h.filesl x.files f0 ∧ h.filesl ≤ h.filesc ∧ h.filesc ≤ 9223372036854775807
def RDisk : Rel DiskD := fun w cs x fp => ∃ h : DiskH, cs = Disk.list x h ∧ Disk.Is w x h fp
theorem Disk.Is.keep {w w' : World} {x : DiskD} {h : DiskH} {fp : List Nat} (hi : Disk.Is w x h fp) (hf : ∀ b ∈ fp, w'.heap[b]? = w.heap[b]?) : Disk.Is w' x h fp := by
  obtain ⟨f0, rfl, r0, u0, v0⟩ := hi
  exact ⟨_, rfl, r0.keep local_File (fun b hb => hf b (by simp [hb])), u0, v0⟩
theorem Disk.Is.lt {w : World} {x : DiskD} {h : DiskH} {fp : List Nat} (hi : Disk.Is w x h fp) : ∀ b ∈ fp, b < w.heap.size := by
  obtain ⟨f0, rfl, r0, u0, v0⟩ := hi
  intro b hb
  exact r0.lt local_File b hb
theorem Disk.Is.below {w w' : World} {x : DiskD} {h : DiskH} {fp : List Nat} (hi : Disk.Is w x h fp) (hb : Below w.heap.size w w') : Disk.Is w' x h fp := hi.keep fun b hb' => hb.block b (hi.lt b hb')
theorem local_Disk : Local RDisk := ⟨fun ⟨h, e, hi⟩ hf => ⟨h, e, hi.keep hf⟩, fun ⟨_, _, hi⟩ => hi.lt⟩
def Disk.sz (x : DiskD) : Nat := szL File.sz x.files

def CopiedDisk (w : World) (x : DiskD) (e : Ending) (w' : World) : Prop := ∃ (h : DiskH) (fp : List Nat), e = .returned (.agg (Disk.list x h).toArray) ∧ Disk.Is w' x h fp ∧ Own w.heap.size w' fp ∧ Below w.heap.size w w'
end Go.Proofs.Ytoglclmaacjdaaa.dat
