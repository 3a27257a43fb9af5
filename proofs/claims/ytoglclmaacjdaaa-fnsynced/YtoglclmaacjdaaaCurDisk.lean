/-
  THE DRAWS OF A DISK: a name.
-/
import Derived.Test.YtoglclmaacjdaaaCurBase
import Derived.Test.YtoglclmaacjdaaaBlk
import Derived.Test.YtoglclmaacjdaaaCur2
import Derived.Test.YtoglclmaacjdaaaFreeTail
import Derived.Test.YtoglclmaacjdaaaDataDisks
namespace Go.Proofs.Ytoglclmaacjdaaa.cur
open Go.RowKit Go.Proofs.Ytoglclmaacjdaaa.win

/-- What a draw of a text answers. -/
def Texts (n : Nat) (g : Nat) (a : Option Addr) (len cap m : Nat) (w : World) (e : Ending) (w' : World) : Prop := ∃ s : ByteArray, e = .returned (.string s) ∧ s.size ≤ n ∧ Curs g a len cap m w' ∧ Only g w w'
def nameL : List ByteArray := [⟨#[97]⟩, ⟨#[99, 107, 112, 116]⟩, ⟨#[115, 105, 110, 107]⟩, ⟨#[122]⟩, ⟨#[]⟩, ⟨#[97, 98, 99, 100, 101, 102, 103, 104, 105, 106, 107, 108, 109, 110, 111, 112, 113, 114, 115, 116, 117]⟩, ⟨#[98]⟩]
theorem nameL_size : ∀ s ∈ nameL, s.size ≤ 21 := by decide
theorem text_at {W : World} {b : Nat} {t : TypeId} {L : List ByteArray} (h : Blk W b t (L.map Value.string)) {i : Nat} (hi : i < L.length) : ∃ s ∈ L, W.cell? ⟨b, i, none⟩ = some (.string s) := by
  refine ⟨L[i], List.getElem_mem _, ?_⟩
  rw [h.cell i, List.getElem?_map, List.getElem?_eq_getElem hi]
  rfl
set_option maxRecDepth 100000 in
set_option maxHeartbeats 1000000 in
theorem name_any (g : Nat) (a : Option Addr) (len cap m : Nat) (w : World) (hm : m ≤ 274877906944) (hc : Curs g a len cap m w) :
    Calls Try.prog 48 #[.pointer (some ⟨g, 0, none⟩)] w (Texts 21 g a len cap (m + 1) w) := by
  have hg := hc.lt
  have H := Lib.hid hc
  clear hc
  go_enter Try.func48, Try.ntmps48
  go_wp2_with fail
  refine calls_gen (fun W => Below w.heap.size w W ∧ Blk W w.heap.size 9 (nameL.map Value.string)) ⟨by repeat (first | exact Below.refl _ _ | refine Below.setCell ?_ (by first | omega | (simp; done) | (simp; omega)) _ | refine Below.alloc ?_ (by first | omega | (simp; done) | (simp; omega)) _ | apply Below.drew), by exact blk_new w _ _⟩ ?_
  rintro W ⟨b, k⟩
  have K := Lib.hid k
  have B := Lib.hid b
  have hkl := k.lt
  clear b k
  refine (pick_any g a len cap m 7 W (by omega) (H.out.below B.out)).mono ?_
  rintro e w2 ⟨r, rfl, r0, r1, hc2, ho2⟩
  obtain ⟨i, rfl⟩ := Int.eq_ofNat_of_zero_le r0
  have hi : i < 7 := by omega
  have hi2 : (i : Int) < 7 := by omega
  obtain ⟨s, hs, c0⟩ := text_at (show Blk w2 w.heap.size 9 (nameL.map Value.string) from (ho2.block _ hkl (by omega)).trans K.out) (i := i) hi
  have HC := Lib.hid hc2
  have HO := Lib.hid ho2
  have HS := Lib.hid (nameL_size s hs)
  clear hc2 ho2 hs r1
  go_wp2_with fail
  go_ret
  exact ⟨s, rfl, HS.out, HC.out, Only.trans ⟨B.out.os, B.out.tape, B.out.output, B.out.size, fun k hk _ => B.out.block k hk⟩ HO.out⟩

def fnL : List ByteArray := [⟨#[97]⟩, ⟨#[99, 107, 112, 116]⟩, ⟨#[115, 105, 110, 107]⟩, ⟨#[122]⟩]
def fsL : List ByteArray := [⟨#[]⟩, ⟨#[97, 98, 99]⟩, ⟨#[102, 114, 97, 109, 101, 32, 49, 10]⟩]
def ftL : List ByteArray := [⟨#[]⟩, ⟨#[120]⟩, ⟨#[116, 97, 105, 108, 32, 116, 97, 105, 108]⟩]
def foL : List ByteArray := [⟨#[]⟩, ⟨#[111, 116, 104, 101, 114]⟩, ⟨#[97, 98]⟩]
theorem fnL_size : ∀ s ∈ fnL, s.size ≤ 20 := by decide
theorem fsL_size : ∀ s ∈ fsL, s.size ≤ 20 := by decide
theorem ftL_size : ∀ s ∈ ftL, s.size ≤ 20 := by decide
theorem foL_size : ∀ s ∈ foL, s.size ≤ 20 := by decide
/-- What the operations of file's first region yield. -/
def VF (g base : Nat) (i : Nat) (w : World) (v : Value) : Prop := match i with
  | 0 => ∃ b : Nat, v = .slice (some ⟨b, 0, none⟩) 4 4 ∧ base ≤ b ∧ Blk w b 9 (fnL.map Value.string)
  | 1 => v = .pointer (some ⟨g, 0, none⟩)
  | 2 => ∃ r : Nat, v = .int .i64 (r : Int) ∧ r < 4
  | 3 => ∃ b r : Nat, v = .pointer (some ⟨b, r, none⟩) ∧ r < 4 ∧ base ≤ b ∧ Blk w b 9 (fnL.map Value.string)
  | 4 => ∃ s ∈ fnL, v = .string s
  | 5 => ∃ b : Nat, v = .slice (some ⟨b, 0, none⟩) 3 3 ∧ base ≤ b ∧ Blk w b 9 (fsL.map Value.string)
  | 6 => v = .pointer (some ⟨g, 0, none⟩)
  | 7 => ∃ r : Nat, v = .int .i64 (r : Int) ∧ r < 3
  | 8 => ∃ b r : Nat, v = .pointer (some ⟨b, r, none⟩) ∧ r < 3 ∧ base ≤ b ∧ Blk w b 9 (fsL.map Value.string)
  | 9 => ∃ s ∈ fsL, v = .string s
  | 10 => ∃ s ∈ fnL, ∃ t ∈ fsL, v = .agg #[.string s, .string t, .string ⟨#[]⟩]
  | 11 => ∃ b : Nat, v = .pointer (some ⟨b, 0, none⟩) ∧ base ≤ b ∧ Blk w b 40 [.string ⟨#[]⟩, .string ⟨#[]⟩, .string ⟨#[]⟩]
  | _ => True
theorem VF.keep {g base : Nat} {w w' : World} (hk : ∀ b, base ≤ b → b < w.heap.size → w'.heap[b]? = w.heap[b]?) (j : Nat) (u : Value) (hv : VF g base j w u) : VF g base j w' u := by
  have hB : ∀ {b t vs}, base ≤ b → Blk w b t vs → Blk w' b t vs := fun h0 hb => (hk _ h0 hb.lt).trans hb
  unfold VF at *
  split at hv <;> first | exact hv | (obtain ⟨b, e, h0, hb⟩ := hv; exact ⟨b, e, h0, hB h0 hb⟩) | (obtain ⟨b, r, e, hr, h0, hb⟩ := hv; exact ⟨b, r, e, hr, h0, hB h0 hb⟩)

/-- What the operations of file's second region yield. -/
def VG (g base b : Nat) (t : ByteArray) (i : Nat) (w : World) (v : Value) : Prop := match i with
  | 0 => v = .pointer (some ⟨b, 1, none⟩)
  | 1 => v = .string t
  | 2 => ∃ c : Nat, v = .slice (some ⟨c, 0, none⟩) 3 3 ∧ base ≤ c ∧ Blk w c 9 (ftL.map Value.string)
  | 3 => v = .pointer (some ⟨g, 0, none⟩)
  | 4 => ∃ r : Nat, v = .int .i64 (r : Int) ∧ r < 3
  | 5 => ∃ c r : Nat, v = .pointer (some ⟨c, r, none⟩) ∧ r < 3 ∧ base ≤ c ∧ Blk w c 9 (ftL.map Value.string)
  | 6 => ∃ u ∈ ftL, v = .string u
  | 7 => ∃ u ∈ ftL, v = .string (t ++ u)
  | _ => True
theorem VG.keep {g base b : Nat} {t : ByteArray} {w w' : World} (hk : ∀ b, base ≤ b → b < w.heap.size → w'.heap[b]? = w.heap[b]?) (j : Nat) (u : Value) (hv : VG g base b t j w u) : VG g base b t j w' u := by
  have hB : ∀ {b t vs}, base ≤ b → Blk w b t vs → Blk w' b t vs := fun h0 hb => (hk _ h0 hb.lt).trans hb
  unfold VG at *
  split at hv <;> first | exact hv | (obtain ⟨b, e, h0, hb⟩ := hv; exact ⟨b, e, h0, hB h0 hb⟩) | (obtain ⟨b, r, e, hr, h0, hb⟩ := hv; exact ⟨b, r, e, hr, h0, hB h0 hb⟩)

set_option maxRecDepth 100000 in
set_option maxHeartbeats 8000000 in
theorem file_any (g : Nat) (a : Option Addr) (len cap m : Nat) (w : World) (hm : m ≤ 1000000) (hc : Curs g a len cap m w) :
    Calls Try.prog 93 #[.pointer (some ⟨g, 0, none⟩)] w fun e w' => ∃ f : dat.FileD, e = .returned (.agg (dat.File.list f).toArray) ∧ f.name.size ≤ 20 ∧ f.safe.size ≤ 100 ∧ f.now.size ≤ 100 ∧ Curs g a len cap (m + 30) w' ∧ Only g w w' := by
  have hg := hc.lt
  have H := Lib.hid hc
  clear hc
  go_enter Try.func93, Try.ntmps93
  go_wp2_with fail
  refine wp_gen (fun W => Below w.heap.size w W ∧ Blk W w.heap.size 40 [.string ⟨#[]⟩, .string ⟨#[]⟩, .string ⟨#[]⟩]) ⟨by repeat (first | exact Below.refl _ _ | refine Below.setCell ?_ (by first | omega | (simp; done) | (simp; omega)) _ | refine Below.alloc ?_ (by first | omega | (simp; done) | (simp; omega)) _ | apply Below.drew), by with_reducible (repeat (first | (refine blk_new_at _ _ _ _ ?_; first | rfl | (simp; done)) | refine Blk.alloc ?_ _ | apply Blk.drew | refine Blk.setOther ?_ (by first | (simp; done) | (simp; omega)) _))⟩ ?_
  rintro W1 ⟨b1, k1⟩
  have K1 := Lib.hid k1
  have B1 := Lib.hid b1
  have C1 := Lib.hid (H.out.below b1)
  have hk1 := k1.lt
  have hg1 : g < W1.heap.size := by omega
  clear b1 k1
  refine mix.wp_region_free_tail (VF g W1.heap.size) (fun n wx => Curs g a len cap (m + n) wx ∧ Only g W1 wx) 12 34 [4, 5, 6, 7, 8, 9, 10, 11, 12, 13, 14, 3] rfl (by kernel_rfl) (by kernel_rfl) (by kernel_rfl) ⟨C1.out.below (by repeat (first | exact Below.refl _ _ | refine Below.setCell ?_ (by first | omega | (simp; done) | (simp; omega)) _ | refine Below.alloc ?_ (by first | omega | (simp; done) | (simp; omega)) _ | apply Below.drew)), (Only.refl g W1).drew⟩ ?_ ?_
  · refine ⟨?_, ?_, ?_, ?_, ?_, ?_, ?_, ?_, ?_, ?_, ?_, ?_, trivial⟩
    · intro n A W hn hG hL hP K hK
      go_simp
      exact hK _ _ ⟨W.heap.size, rfl, hG.2.size, blk_new W _ _⟩ ⟨(hG.1.below ((Below.refl _ _).alloc (Nat.le_refl _) _)).more (by omega), hG.2.alloc _⟩ (VF.keep (fun b _ h2 => Below.heap_alloc _ _ _ h2))
    · intro n A W hn hG hL hP K hK
      have e0 : A.tmps.getD 0 undef = .pointer (some ⟨g, 0, none⟩) := hL.same 0 (by decide)
      go_simp
      exact hK _ _ rfl ⟨hG.1.more (by omega), hG.2⟩ (fun _ _ h => h)
    · intro n A W hn hG hL hP K hK
      have e0 : A.tmps.getD 5 undef = .pointer (some ⟨g, 0, none⟩) := hP 1 (by kernel_rfl) _ rfl
      go_simp
      refine (pick_any g a len cap (m + n) 4 W (by omega) hG.1).mono ?_
      rintro e w' ⟨r, rfl, r0, r1, hc, ho⟩
      exact hK _ _ ⟨r.toNat, by rw [Int.toNat_of_nonneg r0], by omega⟩ ⟨hc.more (by omega), hG.2.trans ho⟩ (VF.keep (fun b h1 h2 => ho.block b h2 (by omega)))
    · intro n A W hn hG hL hP K hK
      obtain ⟨b, e1, hb⟩ : ∃ b, A.tmps.getD 4 undef = .slice (some ⟨b, 0, none⟩) 4 4 ∧ W1.heap.size ≤ b ∧ Blk W b 9 (fnL.map Value.string) := hP 0 (by kernel_rfl) _ rfl
      obtain ⟨r, e2, hr⟩ : ∃ r : Nat, A.tmps.getD 6 undef = .int .i64 (r : Int) ∧ r < 4 := hP 2 (by kernel_rfl) _ rfl
      have hr2 : (r : Int) < 4 := by omega
      have hr0 : (0 : Int) ≤ (r : Int) := by omega
      have HB := Lib.hid hb
      clear hb
      go_simp
      exact hK _ _ ⟨b, r, rfl, hr, HB.out⟩ ⟨hG.1.more (by omega), hG.2⟩ (fun _ _ h => h)
    · intro n A W hn hG hL hP K hK
      obtain ⟨b, r, e1, hr, hb0, hb⟩ : ∃ b r, A.tmps.getD 7 undef = .pointer (some ⟨b, r, none⟩) ∧ r < 4 ∧ W1.heap.size ≤ b ∧ Blk W b 9 (fnL.map Value.string) := hP 3 (by kernel_rfl) _ rfl
      obtain ⟨s, hs, c0⟩ := text_at hb (i := r) hr
      have HS := Lib.hid hs
      clear hb hs
      go_simp
      exact hK _ _ ⟨s, HS.out, rfl⟩ ⟨hG.1.more (by omega), hG.2⟩ (fun _ _ h => h)
    · intro n A W hn hG hL hP K hK
      go_simp
      exact hK _ _ ⟨W.heap.size, rfl, hG.2.size, blk_new W _ _⟩ ⟨(hG.1.below ((Below.refl _ _).alloc (Nat.le_refl _) _)).more (by omega), hG.2.alloc _⟩ (VF.keep (fun b _ h2 => Below.heap_alloc _ _ _ h2))
    · intro n A W hn hG hL hP K hK
      have e0 : A.tmps.getD 0 undef = .pointer (some ⟨g, 0, none⟩) := hL.same 0 (by decide)
      go_simp
      exact hK _ _ rfl ⟨hG.1.more (by omega), hG.2⟩ (fun _ _ h => h)
    · intro n A W hn hG hL hP K hK
      have e0 : A.tmps.getD 10 undef = .pointer (some ⟨g, 0, none⟩) := hP 6 (by kernel_rfl) _ rfl
      go_simp
      refine (pick_any g a len cap (m + n) 3 W (by omega) hG.1).mono ?_
      rintro e w' ⟨r, rfl, r0, r1, hc, ho⟩
      exact hK _ _ ⟨r.toNat, by rw [Int.toNat_of_nonneg r0], by omega⟩ ⟨hc.more (by omega), hG.2.trans ho⟩ (VF.keep (fun b h1 h2 => ho.block b h2 (by omega)))
    · intro n A W hn hG hL hP K hK
      obtain ⟨b, e1, hb⟩ : ∃ b, A.tmps.getD 9 undef = .slice (some ⟨b, 0, none⟩) 3 3 ∧ W1.heap.size ≤ b ∧ Blk W b 9 (fsL.map Value.string) := hP 5 (by kernel_rfl) _ rfl
      obtain ⟨r, e2, hr⟩ : ∃ r : Nat, A.tmps.getD 11 undef = .int .i64 (r : Int) ∧ r < 3 := hP 7 (by kernel_rfl) _ rfl
      have hr2 : (r : Int) < 3 := by omega
      have hr0 : (0 : Int) ≤ (r : Int) := by omega
      have HB := Lib.hid hb
      clear hb
      go_simp
      exact hK _ _ ⟨b, r, rfl, hr, HB.out⟩ ⟨hG.1.more (by omega), hG.2⟩ (fun _ _ h => h)
    · intro n A W hn hG hL hP K hK
      obtain ⟨b, r, e1, hr, hb0, hb⟩ : ∃ b r, A.tmps.getD 12 undef = .pointer (some ⟨b, r, none⟩) ∧ r < 3 ∧ W1.heap.size ≤ b ∧ Blk W b 9 (fsL.map Value.string) := hP 8 (by kernel_rfl) _ rfl
      obtain ⟨s, hs, c0⟩ := text_at hb (i := r) hr
      have HS := Lib.hid hs
      clear hb hs
      go_simp
      exact hK _ _ ⟨s, HS.out, rfl⟩ ⟨hG.1.more (by omega), hG.2⟩ (fun _ _ h => h)
    · intro n A W hn hG hL hP K hK
      obtain ⟨s, hs, e1⟩ : ∃ s ∈ fnL, A.tmps.getD 8 undef = .string s := hP 4 (by kernel_rfl) _ rfl
      obtain ⟨t, ht, e2⟩ : ∃ t ∈ fsL, A.tmps.getD 13 undef = .string t := hP 9 (by kernel_rfl) _ rfl
      have HS := Lib.hid (And.intro hs ht)
      clear hs ht
      have e1' : A.tmps[8]?.getD undef = .string s := by simpa using e1
      have e2' : A.tmps[13]?.getD undef = .string t := by simpa using e2
      go_simp
      exact hK _ _ ⟨s, HS.out.1, t, HS.out.2, rfl⟩ ⟨hG.1.more (by omega), hG.2⟩ (fun _ _ h => h)
    · intro n A W hn hG hL hP K hK
      go_simp
      exact hK _ _ ⟨W.heap.size, rfl, hG.2.size, blk_new W _ _⟩ ⟨(hG.1.below ((Below.refl _ _).alloc (Nat.le_refl _) _)).more (by omega), hG.2.alloc _⟩ (VF.keep (fun b _ h2 => Below.heap_alloc _ _ _ h2))
  intro W f hG hV
  obtain ⟨s, hs, t, ht, e14⟩ : ∃ s ∈ fnL, ∃ t ∈ fsL, f 14 = .agg #[.string s, .string t, .string ⟨#[]⟩] := hV 10 _ (by omega) rfl
  obtain ⟨b, e3, hb0, hb⟩ : ∃ b, f 3 = .pointer (some ⟨b, 0, none⟩) ∧ W1.heap.size ≤ b ∧ Blk W b 40 [.string ⟨#[]⟩, .string ⟨#[]⟩, .string ⟨#[]⟩] := hV 11 _ (by omega) rfl
  have HS := Lib.hid (And.intro (fnL_size s hs) (fsL_size t ht))
  have HB := Lib.hid hb
  have HC := Lib.hid hG.1
  have HO := Lib.hid hG.2
  have b0 := hb.cell 0
  have b1 := hb.cell 1
  have b2 := hb.cell 2
  have bf := hb.frozen
  simp at b0 b1 b2
  have hbl := hb.lt
  simp [mix.lit]
  rw [e14, e3]
  clear hG hV hs ht hb e14 e3
  go_wp2_with fail
  have hbl1 : Below W1.heap.size W (((W.setCell ⟨b, 0, none⟩ (.string s)).setCell ⟨b, 1, none⟩ (.string t)).setCell ⟨b, 2, none⟩ (.string ⟨#[]⟩)) := (((Below.refl _ W).setCell (p := ⟨b, 0, none⟩) hb0 _).setCell (p := ⟨b, 1, none⟩) hb0 _).setCell (p := ⟨b, 2, none⟩) hb0 _
  have hkw : Blk W w.heap.size 40 [.string ⟨#[]⟩, .string ⟨#[]⟩, .string ⟨#[]⟩] := (HO.out.block _ hk1 (by omega)).trans K1.out
  refine wp_gen (fun W2 => Blk W2 b 40 [.string s, .string t, .string ⟨#[]⟩] ∧ Blk W2 w.heap.size 40 [.string ⟨#[]⟩, .string ⟨#[]⟩, .string ⟨#[]⟩] ∧ Curs g a len cap (m + 12) W2 ∧ Only g w W2) ⟨?_, (hbl1.block _ hk1).trans hkw, HC.out.belowB hbl1 hg1, ((Only.of_below B1.out).trans HO.out).then_below hbl1 (by have := B1.out.size; omega)⟩ ?_
  · (apply Blk.of_eq; (repeat (first | (with_reducible exact HB.out) | (with_reducible apply Blk.set) | ((with_reducible apply Blk.other); · first | (simp; done) | (simp; omega)) | (with_reducible apply Blk.drew))); rfl)
  clear hbl1 hkw b0 b1 b2 bf HB HC HO
  rintro W2 ⟨kb, kw, hc2, ho2⟩
  have KB2 := Lib.hid kb
  have KW2 := Lib.hid kw
  have HC2 := Lib.hid hc2
  have HO2 := Lib.hid ho2
  have hbl := kb.lt
  have hwl := kw.lt
  have hgb : b ≠ g := by omega
  have hg2 := hc2.lt
  clear kb kw hc2 ho2 hg1 K1 B1 C1
  refine mix.wp_region_free_tail (VG g W2.heap.size b t) (fun n wx => Curs g a len cap (m + 12 + n) wx ∧ Only g W2 wx) 8 34 [15, 16, 17, 18, 19, 20, 21, 22] rfl (by kernel_rfl) (by kernel_rfl) (by kernel_rfl) ⟨HC2.out.below (by repeat (first | exact Below.refl _ _ | refine Below.setCell ?_ (by first | omega | (simp; done) | (simp; omega)) _ | refine Below.alloc ?_ (by first | omega | (simp; done) | (simp; omega)) _ | apply Below.drew)), (Only.refl g W2).drew⟩ ?_ ?_
  · refine ⟨?_, ?_, ?_, ?_, ?_, ?_, ?_, ?_, trivial⟩
    · intro n A W hn hG hL hP K hK
      have e0 : A.tmps.getD 3 undef = .pointer (some ⟨b, 0, none⟩) := hL.same 3 (by decide)
      go_simp
      exact hK _ _ rfl ⟨hG.1.more (by omega), hG.2⟩ (fun _ _ h => h)
    · intro n A W hn hG hL hP K hK
      have e0 : A.tmps.getD 15 undef = .pointer (some ⟨b, 1, none⟩) := hP 0 (by kernel_rfl) _ rfl
      have c1 : W.cell? ⟨b, 1, none⟩ = some (.string t) := (hG.2.cell hbl hgb).trans (by simpa using KB2.out.cell 1)
      go_simp
      exact hK _ _ rfl ⟨hG.1.more (by omega), hG.2⟩ (fun _ _ h => h)
    · intro n A W hn hG hL hP K hK
      go_simp
      exact hK _ _ ⟨W.heap.size, rfl, hG.2.size, blk_new W _ _⟩ ⟨(hG.1.below ((Below.refl _ _).alloc (Nat.le_refl _) _)).more (by omega), hG.2.alloc _⟩ (VG.keep (fun b _ h2 => Below.heap_alloc _ _ _ h2))
    · intro n A W hn hG hL hP K hK
      have e0 : A.tmps.getD 0 undef = .pointer (some ⟨g, 0, none⟩) := hL.same 0 (by decide)
      go_simp
      exact hK _ _ rfl ⟨hG.1.more (by omega), hG.2⟩ (fun _ _ h => h)
    · intro n A W hn hG hL hP K hK
      have e0 : A.tmps.getD 18 undef = .pointer (some ⟨g, 0, none⟩) := hP 3 (by kernel_rfl) _ rfl
      go_simp
      refine (pick_any g a len cap (m + 12 + n) 3 W (by omega) hG.1).mono ?_
      rintro e w' ⟨r, rfl, r0, r1, hc, ho⟩
      exact hK _ _ ⟨r.toNat, by rw [Int.toNat_of_nonneg r0], by omega⟩ ⟨hc.more (by omega), hG.2.trans ho⟩ (VG.keep (fun b h1 h2 => ho.block b h2 (by omega)))
    · intro n A W hn hG hL hP K hK
      obtain ⟨c, e1, hb⟩ : ∃ c, A.tmps.getD 17 undef = .slice (some ⟨c, 0, none⟩) 3 3 ∧ W2.heap.size ≤ c ∧ Blk W c 9 (ftL.map Value.string) := hP 2 (by kernel_rfl) _ rfl
      obtain ⟨r, e2, hr⟩ : ∃ r : Nat, A.tmps.getD 19 undef = .int .i64 (r : Int) ∧ r < 3 := hP 4 (by kernel_rfl) _ rfl
      have hr2 : (r : Int) < 3 := by omega
      have hr0 : (0 : Int) ≤ (r : Int) := by omega
      have HB := Lib.hid hb
      clear hb
      go_simp
      exact hK _ _ ⟨c, r, rfl, hr, HB.out⟩ ⟨hG.1.more (by omega), hG.2⟩ (fun _ _ h => h)
    · intro n A W hn hG hL hP K hK
      obtain ⟨c, r, e1, hr, hb0, hb⟩ : ∃ c r, A.tmps.getD 20 undef = .pointer (some ⟨c, r, none⟩) ∧ r < 3 ∧ W2.heap.size ≤ c ∧ Blk W c 9 (ftL.map Value.string) := hP 5 (by kernel_rfl) _ rfl
      obtain ⟨u, hu, c0⟩ := text_at hb (i := r) hr
      have HU := Lib.hid hu
      clear hb hu
      go_simp
      exact hK _ _ ⟨u, HU.out, rfl⟩ ⟨hG.1.more (by omega), hG.2⟩ (fun _ _ h => h)
    · intro n A W hn hG hL hP K hK
      have e1 : A.tmps.getD 16 undef = .string t := hP 1 (by kernel_rfl) _ rfl
      obtain ⟨u, hu, e2⟩ : ∃ u ∈ ftL, A.tmps.getD 21 undef = .string u := hP 6 (by kernel_rfl) _ rfl
      have hcat : ¬ 9223372036854775807 < t.size + u.size := by have := ftL_size u hu; have := HS.out.2; omega
      have HU := Lib.hid hu
      clear hu
      have e1' : A.tmps[16]?.getD undef = .string t := by simpa using e1
      have e2' : A.tmps[21]?.getD undef = .string u := by simpa using e2
      go_simp
      exact hK _ _ ⟨u, HU.out, rfl⟩ ⟨hG.1.more (by omega), hG.2⟩ (fun _ _ h => h)
  intro W3 f3 hG hV
  obtain ⟨u, hu, e22⟩ : ∃ u ∈ ftL, f3 22 = .string (t ++ u) := hV 7 _ (by omega) rfl
  obtain ⟨nw, hnw⟩ : ∃ nw, t ++ u = nw := ⟨_, rfl⟩
  have HNW := Lib.hid (show nw.size ≤ 100 by rw [← hnw, ByteArray.size_append]; have := ftL_size u hu; have := HS.out.2; omega)
  rw [hnw] at e22
  have KB3 := Lib.hid (show Blk W3 b 40 [.string s, .string t, .string ⟨#[]⟩] from (hG.2.block _ hbl hgb).trans KB2.out)
  have KW3 := Lib.hid (show Blk W3 w.heap.size 40 [.string ⟨#[]⟩, .string ⟨#[]⟩, .string ⟨#[]⟩] from (hG.2.block _ hwl (by omega)).trans KW2.out)
  have HC3 := Lib.hid hG.1
  have HO3 := Lib.hid (HO2.out.trans hG.2)
  have b2 := KB3.out.cell 2
  have bf := KB3.out.frozen
  simp at b2
  have hbl3 := KB3.out.lt
  have hbw : w.heap.size < b := by have := HO3.out.size; omega
  simp [mix.lit]
  rw [e22]
  clear hG hV hu e22 hnw KB2 KW2 HC2 HO2
  go_wp2_with fail
  refine calls_gen (fun W => Blk W b 40 [.string s, .string t, .string nw] ∧ Blk W w.heap.size 40 [.string ⟨#[]⟩, .string ⟨#[]⟩, .string ⟨#[]⟩] ∧ Curs g a len cap (m + 20) W ∧ Only g w W) ⟨?_, ?_, HC3.out.belowB (B := w.heap.size) ((Below.refl _ W3).setCell (p := ⟨b, 2, none⟩) (Nat.le_of_lt hbw) _) hg, HO3.out.then_below (B := w.heap.size) ((Below.refl _ W3).setCell (p := ⟨b, 2, none⟩) (Nat.le_of_lt hbw) _) (Nat.le_refl _)⟩ ?_
  · (apply Blk.of_eq; (repeat (first | (with_reducible exact KB3.out) | (with_reducible apply Blk.set) | ((with_reducible apply Blk.other); · first | (simp; done) | (simp; omega)) | (with_reducible apply Blk.drew))); rfl)
  · (apply Blk.of_eq; (repeat (first | (with_reducible exact KW3.out) | (with_reducible apply Blk.set) | ((with_reducible apply Blk.other); · first | (simp; done) | (simp; omega)) | (with_reducible apply Blk.drew))); rfl)
  clear b2 bf KB3 KW3 HC3 HO3
  rintro W4 ⟨kb, kw, hc4, ho4⟩
  refine (pick_any g a len cap (m + 20) 3 W4 (by omega) hc4).mono ?_
  rintro e W5 ⟨r, rfl, r0, r1, hc5, ho5⟩
  have KB := Lib.hid (show Blk W5 b 40 [.string s, .string t, .string nw] from (ho5.block _ kb.lt hgb).trans kb)
  have KW := Lib.hid (show Blk W5 w.heap.size 40 [.string ⟨#[]⟩, .string ⟨#[]⟩, .string ⟨#[]⟩] from (ho5.block _ kw.lt (by omega)).trans kw)
  have HC9 := Lib.hid hc5
  have HO9 := Lib.hid (ho4.trans ho5)
  have BB := Lib.hid (show w.heap.size < W5.heap.size from KW.out.lt)
  clear kb kw hc4 ho4 hc5 ho5 hbl hbl3
  by_cases hr : r = 0
  case neg =>
    clear r0 r1
    have hb1 := BB.out
    have q0 := KB.out.cell 0
    have q1 := KB.out.cell 1
    have q2 := KB.out.cell 2
    have p0 := KW.out.cell 0
    have p1 := KW.out.cell 1
    have p2 := KW.out.cell 2
    have pf := KW.out.frozen
    simp at q0 q1 q2 p0 p1 p2
    go_wp2_with fail
    refine body_gen (fun W => Blk W w.heap.size 40 [.string s, .string t, .string nw] ∧ Curs g a len cap (m + 30) W ∧ Only g w W) ⟨?_, ?_, ?_⟩ ?_
    · (apply Blk.of_eq; (repeat (first | (with_reducible exact KW.out) | (with_reducible apply Blk.set) | ((with_reducible apply Blk.other); · first | (simp; done) | (simp; omega)) | (with_reducible apply Blk.drew))); rfl)
    · exact (HC9.out.belowB (B := w.heap.size) (by repeat (first | exact Below.refl _ _ | refine Below.setCell ?_ (by first | omega | (simp; done) | (simp; omega)) _ | refine Below.alloc ?_ (by first | omega | (simp; done) | (simp; omega)) _ | apply Below.drew)) hg).more (by omega)
    · exact HO9.out.then_below (B := w.heap.size) (by repeat (first | exact Below.refl _ _ | refine Below.setCell ?_ (by first | omega | (simp; done) | (simp; omega)) _ | refine Below.alloc ?_ (by first | omega | (simp; done) | (simp; omega)) _ | apply Below.drew)) (Nat.le_refl _)
    clear q0 q1 q2 p0 p1 p2 pf
    rintro W ⟨kw, cw, ow⟩
    have e0 := kw.cell 0
    have e1 := kw.cell 1
    have e2 := kw.cell 2
    simp at e0 e1 e2
    refine bodyPost_ret (v := .agg (dat.File.list ⟨s, t, nw⟩).toArray) (by simp [results, Try.results93, go_sem, e0, e1, e2, dat.File.list]) rfl ?_
    exact ⟨⟨s, t, nw⟩, rfl, HS.out.1, by have := HS.out.2; show t.size ≤ 100; omega, HNW.out, cw, ow⟩
  subst hr
  go_wp2_with fail
  refine calls_gen (fun W => Below W5.heap.size W5 W ∧ Blk W W5.heap.size 9 (foL.map Value.string)) ⟨by repeat (first | exact Below.refl _ _ | refine Below.setCell ?_ (by first | omega | (simp; done) | (simp; omega)) _ | refine Below.alloc ?_ (by first | omega | (simp; done) | (simp; omega)) _ | apply Below.drew), by exact blk_new W5 _ _⟩ ?_
  rintro W6 ⟨b6, k6⟩
  refine (pick_any g a len cap (m + 21) 3 W6 (by omega) (HC9.out.below b6)).mono ?_
  rintro e W7 ⟨r, rfl, r0, r1, hc7, ho7⟩
  obtain ⟨i, rfl⟩ := Int.eq_ofNat_of_zero_le r0
  have hi : i < 3 := by omega
  have hi2 : (i : Int) < 3 := by omega
  have hg5 := HC9.out.lt
  obtain ⟨u2, hu2, c0⟩ := text_at (show Blk W7 W5.heap.size 9 (foL.map Value.string) from (ho7.block _ k6.lt (by omega)).trans k6) (i := i) hi
  have hu3 := Lib.hid (foL_size u2 hu2)
  have KB7 := Lib.hid (show Blk W7 b 40 [.string s, .string t, .string nw] from (ho7.block _ (Nat.lt_of_lt_of_le KB.out.lt b6.size) hgb).trans (KB.out.below b6 KB.out.lt))
  have KW7 := Lib.hid (show Blk W7 w.heap.size 40 [.string ⟨#[]⟩, .string ⟨#[]⟩, .string ⟨#[]⟩] from (ho7.block _ (Nat.lt_of_lt_of_le KW.out.lt b6.size) (by omega)).trans (KW.out.below b6 KW.out.lt))
  have HC7 := Lib.hid hc7
  have HO7 := Lib.hid ((HO9.out.trans (Only.of_below b6)).trans ho7)
  have y2 := KB7.out.cell 2
  have y0 := KB7.out.cell 0
  have y1 := KB7.out.cell 1
  have yf := KB7.out.frozen
  have p0 := KW7.out.cell 0
  have p1 := KW7.out.cell 1
  have p2 := KW7.out.cell 2
  have pf := KW7.out.frozen
  simp at y0 y1 y2 p0 p1 p2
  clear k6 b6 hc7 ho7 hu2 r1 KB KW HC9 HO9
  go_wp2_with fail
  refine body_gen (fun W => Blk W w.heap.size 40 [.string s, .string t, .string u2] ∧ Curs g a len cap (m + 30) W ∧ Only g w W) ⟨?_, ?_, ?_⟩ ?_
  · (apply Blk.of_eq; (repeat (first | (with_reducible exact KW7.out) | (with_reducible apply Blk.set) | ((with_reducible apply Blk.other); · first | (simp; done) | (simp; omega)) | (with_reducible apply Blk.drew))); rfl)
  · exact (HC7.out.belowB (B := w.heap.size) (by repeat (first | exact Below.refl _ _ | refine Below.setCell ?_ (by first | omega | (simp; done) | (simp; omega)) _ | refine Below.alloc ?_ (by first | omega | (simp; done) | (simp; omega)) _ | apply Below.drew)) hg).more (by omega)
  · exact HO7.out.then_below (B := w.heap.size) (by repeat (first | exact Below.refl _ _ | refine Below.setCell ?_ (by first | omega | (simp; done) | (simp; omega)) _ | refine Below.alloc ?_ (by first | omega | (simp; done) | (simp; omega)) _ | apply Below.drew)) (Nat.le_refl _)
  clear y0 y1 y2 yf p0 p1 p2 pf
  rintro W ⟨kw, cw, ow⟩
  have e0 := kw.cell 0
  have e1 := kw.cell 1
  have e2 := kw.cell 2
  simp at e0 e1 e2
  refine bodyPost_ret (v := .agg (dat.File.list ⟨s, t, u2⟩).toArray) (by simp [results, Try.results93, go_sem, e0, e1, e2, dat.File.list]) rfl ?_
  exact ⟨⟨s, t, u2⟩, rfl, HS.out.1, by have := HS.out.2; show t.size ≤ 100; omega, by have := hu3.out; show u2.size ≤ 100; omega, cw, ow⟩
end Go.Proofs.Ytoglclmaacjdaaa.cur
