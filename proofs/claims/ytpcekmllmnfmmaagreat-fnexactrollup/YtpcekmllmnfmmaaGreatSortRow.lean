/-
  slices.SortFunc ON A ROW THAT WAS BUILT BY append: the same slice owns the same data, sorted; nothing else is written. (Out of the library's contract, for whatever structs, and a comparison that may read memory and lay blocks.)
-/
import Derived.Test.YtpcekmllmnfmmaaGreatGrow
import Derived.Shelf.SlSortCmp.WholeK
namespace Go.Proofs.YtpcekmllmnfmmaaGreat.dat
open Go.RowKit Go.Proofs.YtpcekmllmnfmmaaGreat.win Go.Shelf Go.Sort

/-- An element with its cells and blocks, as it lies in W. -/
structure SE {β : Type} (k : Nat) (R : Rel β) (W : World) (g : Nat) (ok : β → Prop) where
  p : β
  cs : List Value
  f : List Nat
  len : cs.length = k
  is : R W cs p f
  ne : g ∉ f
  ok : ok p
  one : ∀ v ∈ cs, v.oneCell' = true

theorem heap_sw {α : Type} [Inhabited α] {enc : α → List Value} {k : Nat} {W : World} {g m : Nat} {dk : Array α} {os : Array Obj} {b : Nat} (hb : b < W.heap.size) (hne : b ≠ g) : (sortWorldK enc k W g 0 m dk os).heap[b]? = W.heap[b]? := by
  unfold sortWorldK
  rw [heap_grow_old _ _ (by rw [size_putRowK]; exact hb)]
  have : g ≠ b := fun e => hne e.symm
  simp [putRowK, putRow, mapBlock, Sort.ahead, Array.getElem?_modify, this]
theorem heap_sg {α : Type} [Inhabited α] {enc : α → List Value} {k : Nat} {W : World} {g m : Nat} {dk : Array α} {os : Array Obj} {cur : Array Value} {e : TypeId} {fr : Nat × Nat} (hb : W.heap[g]? = some (.cells cur e fr)) : (sortWorldK enc k W g 0 m dk os).heap[g]? = some (.cells (putCells id 0 (flatK enc k dk) cur) e fr) := by
  have hg : g < W.heap.size := (Array.getElem?_eq_some_iff.1 hb).1
  unfold sortWorldK
  rw [heap_grow_old _ _ (by rw [size_putRowK]; exact hg)]
  simp [putRowK, putRow, mapBlock, Sort.ahead, Array.getElem?_modify, hb, onCells]
theorem size_sw {α : Type} [Inhabited α] {enc : α → List Value} {k : Nat} {W : World} {g m : Nat} {dk : Array α} {os : Array Obj} : W.heap.size ≤ (sortWorldK enc k W g 0 m dk os).heap.size := by
  unfold sortWorldK
  rw [size_grow, size_putRowK]
  exact Nat.le_add_right _ _
theorem grow_of {W w' : World} {q : Nat} (h : Below W.heap.size W w') (hd : w'.drawn = W.drawn + q) : ∃ os', w' = grow (W.drewN q) os' := by
  refine ⟨w'.heap.extract W.heap.size w'.heap.size, ?_⟩
  have e : w'.heap = W.heap ++ w'.heap.extract W.heap.size w'.heap.size := by
    apply Array.ext_getElem?
    intro i
    by_cases hi : i < W.heap.size
    · rw [h.block i hi, Array.getElem?_append_left hi]
    · rw [Array.getElem?_append_right (by omega), Array.getElem?_extract]
      by_cases h2 : i < w'.heap.size
      · rw [if_pos (by omega)]
        congr 1
        omega
      · rw [if_neg (by omega), Array.getElem?_eq_none (by omega)]
  obtain ⟨h1, t1, d1, o1, p1⟩ := w'
  have hos := h.os
  have htape := h.tape
  have hout := h.output
  simp only at hd e hos htape hout
  unfold grow World.drewN
  simp only [hd, hos, htape, hout]
  rw [← e]

set_option maxHeartbeats 2000000 in
theorem sortRow {β : Type} {k : Nat} {R : Rel β} {ρ : Ren} (L : SlLaysF0.n6 Tryz.prog ρ) (hk0 : 0 < k) (aE : ∀ w, (isAgg (ρ.t 24)).run Tryz.prog w = .ok true w) (zE : ∀ w, (Go.sizeOf (ρ.t 24)).run Tryz.prog w = .ok k w) (hR : Local R) (hone : ∀ {w cs p f}, R w cs p f → cs.length = k ∧ ∀ v ∈ cs, v.oneCell' = true)
    (cf : β → β → Int) (hO : SWO (ltOf cf)) (ok : β → Prop) (z : β) (zc : List Value) (hz : ∀ w, R w zc z []) (hzo : ok z) (gf : Nat) (eg : ∀ args w, (callFunc gf args).run Tryz.prog w = .ok (.enter gf args) w)
    (hcmp : ∀ {W x cx fx y cy fy}, R W cx x fx → R W cy y fy → ok x → ok y → Calls Tryz.prog gf #[.agg cx.toArray, .agg cy.toArray] W fun e w' => e = .returned (.int .i64 (cf x y)) ∧ Below W.heap.size W w' ∧ ∃ q, w'.drawn = W.drawn + q)
    {e : TypeId} {base : Nat} {W : World} {v : Value} {l : List β} (hG : Grows k R e base W v l) (hv : v.ownBlock ≠ none) (hok : ∀ x ∈ l, ok x) (hlen : l.length < 4611686018427387904) :
    Calls Tryz.prog (ρ.f 6) #[v, .func (.func gf) #[] #[]] W fun r w' => r = .returned (.tuple #[]) ∧ ∃ l' : List β, l'.Perm l ∧ l'.Pairwise (fun x y => ¬ cf y x < 0) ∧ Grows k R e base w' v l' ∧ Below base W w' := by
  obtain ⟨css, F, h1, h2, h3, h4, h5, h6, ho⟩ := hG.ex
  rcases ho.2 with ⟨rfl, _⟩ | ⟨g, cap, cur, rfl, hbg, hb, hnc, hcm, hcs, htake⟩
  · exact absurd rfl hv
  haveI : Inhabited (SE k R W g ok) := ⟨⟨z, zc, [], (hone (hz W)).1, hz W, by simp, hzo, (hone (hz W)).2⟩⟩
  have hF : ∀ (i : Nat) (hi : i < l.length), g ∉ F[i]'(by omega) := fun i hi hm => (h6 g (mem_flatten_of (List.getElem?_eq_getElem (by omega)) hm)).2.2 rfl
  have hIs : ∀ (i : Nat) (hi : i < l.length), R W (css[i]'(by omega)) l[i] (F[i]'(by omega)) := fun i hi => h4 i _ _ _ (List.getElem?_eq_getElem hi) (List.getElem?_eq_getElem (by omega)) (List.getElem?_eq_getElem (by omega))
  let mk : Fin l.length → SE k R W g ok := fun i => ⟨l[i.val]'i.2, css[i.val]'(by have := i.2; omega), F[i.val]'(by have := i.2; omega), (hone (hIs i.val i.2)).1, hIs i.val i.2, hF i.val i.2, hok _ (List.getElem_mem _), (hone (hIs i.val i.2)).2⟩
  obtain ⟨d, hd⟩ : ∃ d, Array.ofFn mk = d := ⟨_, rfl⟩
  have hds : d.size = l.length := by rw [← hd]; simp
  have hdp : d.toList.map SE.p = l := by
    rw [← hd, Array.toList_ofFn]
    apply List.ext_getElem
    · simp
    · intro i q1 q2; simp [mk]
  have hdc : d.toList.map SE.cs = css := by
    rw [← hd, Array.toList_ofFn]
    apply List.ext_getElem
    · simp [h1]
    · intro i q1 q2; simp [mk]
  have hdf : d.toList.map SE.f = F := by
    rw [← hd, Array.toList_ofFn]
    apply List.ext_getElem
    · simp [h2]
    · intro i q1 q2; simp [mk]
  clear hd
  clear mk
  have hflat : ∀ (D : Array (SE k R W g ok)) (t : Nat), t < D.size * k → (D.toList.map SE.cs).flatten[t]? = some (flatK SE.cs k D)[t]! := by
    intro D t ht
    rw [get_flatK _ _ _ t ht]
    have hq : t / k < D.size := Nat.div_lt_of_lt_mul (by rw [Nat.mul_comm]; exact ht)
    have hr : t % k < k := Nat.mod_lt _ hk0
    have hc : (D.toList.map SE.cs)[t / k]? = some (D[t / k]).cs := by simp [hq]
    have := flat_get (css := D.toList.map SE.cs) (k := k) (fun c hc' => by obtain ⟨s, _, rfl⟩ := List.mem_map.1 hc'; exact s.len) hc (t % k) hr
    rw [show t / k * k + t % k = t by rw [Nat.mul_comm]; exact Nat.div_add_mod t k] at this
    rw [this, getElem!_pos D (t / k) hq, List.getElem?_eq_getElem (by rw [(D[t / k]).len]; exact hr), getElem!_pos _ _ (by rw [(D[t / k]).len]; exact hr)]
  have hH : HoldsK SE.cs k W g 0 d := by
    intro j hj
    rw [size_flatK] at hj
    refine ⟨?_, by simp [World.frozen?, hb]⟩
    have e1 := hflat d j hj
    rw [hdc, ← htake, List.getElem?_take, if_pos (by rw [← hds]; exact hj)] at e1
    rw [Go.Joins.cell_of_block hb, Nat.zero_add]
    simpa using e1
  have hC : CmpLays Tryz.prog gf #[] (SE.cs (k := k) (R := R) (W := W) (g := g) (ok := ok)) k (fun x y => cf x.p y.p) g 0 d.size W := by
    intro m os dk hs x y
    have keep : ∀ s : SE k R W g ok, R (sortWorldK SE.cs k W g 0 m dk os) s.cs s.p s.f := fun s => hR.keep s.is fun b hb' => heap_sw (hR.lt s.is b hb') (fun e => s.ne (e ▸ hb'))
    refine (hcmp (keep x) (keep y) x.ok y.ok).mono ?_
    rintro r w' ⟨rfl, hbw, q, hq⟩
    obtain ⟨os', ho'⟩ := grow_of hbw hq
    exact ⟨rfl, q, os', ho'⟩
  have hO' : SWO (ltOf fun x y : SE k R W g ok => cf x.p y.p) := ⟨fun x => hO.irrefl x.p, fun x y z => hO.trans x.p y.p z.p, fun x y z => hO.ntrans x.p y.p z.p⟩
  have hcon := AnyQ.slices_SortFunc L k aE zE SE.cs (fun x => x.len) (fun x => x.one) (fun x y => cf x.p y.p) hO' gf #[] g 0 cap d W eg hC hH (Array.getElem?_eq_some_iff.1 hb).1 (by rw [hds]; exact hlen)
  rw [hds] at hcon
  refine hcon.mono ?_
  rintro r w' ⟨rfl, d', n, os, hp, hs, rfl⟩
  have hsz : d'.size = l.length := by rw [hp.1, hds]
  have hperm : d'.toList.Perm d.toList := by
    have := hp.2.2
    rwa [← hds, show d'.extract 0 d.size = d' by rw [← hp.1]; simp, show d.extract 0 d.size = d by simp] at this
  have pF : (d'.toList.map SE.f).flatten.Perm F.flatten := by rw [← hdf]; exact (hperm.map SE.f).flatten
  refine ⟨rfl, d'.toList.map SE.p, by rw [← hdp]; exact hperm.map _, ?_, ⟨d'.toList.map SE.cs, d'.toList.map SE.f, by simp, by simp, ?_, ?_, pF.nodup_iff.2 h5, ?_, ?_⟩, ?_⟩
  · rw [List.pairwise_map, List.pairwise_iff_getElem]
    intro i j hi hj hij
    have hi' : i < d'.size := by simpa using hi
    have hj' : j < d'.size := by simpa using hj
    have := hs i j (Nat.zero_le _) hij (by omega)
    rw [getElem!_pos d' i hi', getElem!_pos d' j hj'] at this
    simpa [ltOf] using this
  · intro c hc
    obtain ⟨s, _, rfl⟩ := List.mem_map.1 hc
    exact s.len
  · intro i x c f hx hc hf
    rw [List.getElem?_map] at hx hc hf
    obtain ⟨s, hs1, rfl⟩ := Option.map_eq_some_iff.1 hx
    rw [hs1] at hc hf
    cases hc
    cases hf
    exact hR.keep s.is fun b hb' => heap_sw (hR.lt s.is b hb') (fun e => s.ne (e ▸ hb'))
  · intro b hb'
    have := h6 b (pF.mem_iff.1 hb')
    exact ⟨this.1, this.2.1.same (heap_sw this.2.1.lt (fun e => this.2.2 (by rw [e]; rfl))), this.2.2⟩
  · have hl' : (d'.toList.map SE.p).length = l.length := by simp [hsz]
    have hfl : (d'.toList.map SE.cs).flatten.length = l.length * k := by
      rw [flat_len (k := k) (fun c hc => by obtain ⟨s, _, rfl⟩ := List.mem_map.1 hc; exact s.len)]
      simp [hsz]
    rw [hl']
    refine ⟨hfl, .inr ⟨g, cap, _, rfl, hbg, heap_sg hb, hnc, hcm, by simp [putCells, hcs], ?_⟩⟩
    apply List.ext_getElem?
    intro j
    by_cases hj : j < l.length * k
    · have hjc : j < cur.size := by rw [hcs]; exact Nat.lt_of_lt_of_le hj (Nat.mul_le_mul_right k hnc)
      rw [List.getElem?_take, if_pos hj, hflat d' j (by rw [hsz]; exact hj), Array.getElem?_toList]
      simp [putCells, hjc, hsz, hj]
    · rw [List.getElem?_take, if_neg hj, List.getElem?_eq_none (by omega)]
  · refine ⟨rfl, rfl, rfl, size_sw, fun b hb' => heap_sw ?_ ?_⟩
    · have := (Array.getElem?_eq_some_iff.1 hb).1; omega
    · omega
end Go.Proofs.YtpcekmllmnfmmaaGreat.dat
