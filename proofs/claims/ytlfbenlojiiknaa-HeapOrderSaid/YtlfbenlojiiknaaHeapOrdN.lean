/- HeapOrder: each call of the heap beside the map. -/
import Derived.Test.YtlfbenlojiiknaaHeapOrdM
set_option maxRecDepth 100000
namespace Go.Proofs.Ytlfbenlojiiknaa
open Go.ChangeShapes Go.WideShapes Go.ChangeAt Go.RowKit Go.Maps HeapM

theorem MapI.len_run {w : World} {m n : Nat} {D : DataW Unit} (h : MapI w m n D) (ty : TypeId) : (Builtin.len_ #[59] ty #[.map (some m)]).run Try.prog w = .ok (.int .i64 (Maps.size D)) w := World.ownsMap.len h Try.underlying59 ty
section
variable {C : HCode} {w : World} {B0 : Nat} {v wr w' : World} {N sz : Nat} {l : List It} {T2 T3 : Th}
theorem Side.hpush (h : Side w B0 v wr (hTh C N sz l) T2 T3) (x : It) (hx : ItOk x) : Calls Try.prog 12 #[.pointer (some ⟨N, 0, none⟩), itV x] wr fun e w' => e = .returned (.int .i64 (pushE (sz : Nat) l x)) ∧ Side w B0 v w' (hTh C N sz (pushR (sz : Nat) l x)) T2 T3 := Side.call (T' := hTh C N sz _) h fun _ q => C.push x q hx
theorem Side.hset (h : Side w B0 v wr (hTh C N sz l) T2 T3) (x : It) (hx : ItOk x) : Calls Try.prog 15 #[.pointer (some ⟨N, 0, none⟩), itV x] wr fun e w' => e = .returned (.int .i64 (setE l x)) ∧ Side w B0 v w' (hTh C N sz (setR l x)) T2 T3 := Side.call (T' := hTh C N sz _) h fun _ q => C.set x q hx
theorem Side.hrem (h : Side w B0 v wr (hTh C N sz l) T2 T3) (d : Nat) (hd : d < 18446744073709551616) : Calls Try.prog 17 #[.pointer (some ⟨N, 0, none⟩), .int .u64 (d : Nat)] wr fun e w' => e = .returned (.tuple #[itV (remX l d), .int .i64 (remE l d)]) ∧ Side w B0 v w' (hTh C N sz (remR l d)) T2 T3 := Side.call (T' := hTh C N sz _) h fun _ q => C.remove d q hd
theorem Side.hpop (h : Side w B0 v wr (hTh C N sz l) T2 T3) : Calls Try.prog 19 #[.pointer (some ⟨N, 0, none⟩)] wr fun e w' => e = .returned (.tuple #[itV (popX l), .int .i64 (popE l)]) ∧ Side w B0 v w' (hTh C N sz (popR l)) T2 T3 := Side.call (T' := hTh C N sz _) h fun _ q => C.pop q
theorem Side.hfind (h : Side w B0 v wr (hTh C N sz l) T2 T3) (d : Nat) (hd : d < 18446744073709551616) : Calls Try.prog 22 #[.pointer (some ⟨N, 0, none⟩), .int .u64 (d : Nat)] wr fun e w' => e = .returned (.tuple #[itV (remX l d), .int .i64 (findK l d), .bool (place l d).isSome]) ∧ Below wr.heap.size wr w' := by
  obtain ⟨F, G, H, f, -⟩ := h.out
  exact C.find d f hd
theorem Side.hrow (h : Side w B0 v wr (hTh C N sz l) T2 T3) : Calls Try.prog 26 #[.pointer (some ⟨N, 0, none⟩)] wr fun e w' => ∃ p c, e = .returned (.slice p l.length c) ∧ HoldsI w' p l.length c l ∧ Below wr.heap.size wr w' := by
  obtain ⟨F, G, H, f, -⟩ := h.out
  exact (C.row f).mono fun _ _ ⟨p, c, a, r, _, b⟩ => ⟨p, c, a, r, b⟩
theorem Side.hlen (h : Side w B0 v wr (hTh C N sz l) T2 T3) : Calls Try.prog 13 #[.pointer (some ⟨N, 0, none⟩)] wr fun e w' => e = .returned (.int .i64 (l.length : Nat)) ∧ Below wr.heap.size wr w' := by
  obtain ⟨F, G, H, f, -⟩ := h.out
  exact C.len f
theorem Side.hfit (h : Side w B0 v wr (hTh C N sz l) T2 T3) : l.length ≤ sz ∧ sz ≤ 1048576 := by
  obtain ⟨F, G, H, f, -⟩ := h.out
  exact C.fit f
theorem Side.hnod (h : Side w B0 v wr (hTh C N sz l) T2 T3) : Nod l := by
  obtain ⟨F, G, H, f, -⟩ := h.out
  exact C.nod f
theorem Side.hoks (h : Side w B0 v wr (hTh C N sz l) T2 T3) : ∀ x ∈ l, ItOk x := by
  obtain ⟨F, G, H, f, -⟩ := h.out
  exact C.oks f
end
/-- The heap, and the map of what it holds. -/
structure OrdS (C : HCode) (w : World) (B0 : Nat) (v wr : World) (N m : Nat) (l : List It) (D : DataW Unit) : Prop where
  side : Side w B0 v wr (hTh C N 60 l) (mTh m D) noTh
  mo : MoD D l
  hp : Heap l
section
variable {C : HCode} {w : World} {B0 : Nat} {v wr w' : World} {N m : Nat} {l : List It} {D : DataW Unit}
theorem OrdS.below (h : OrdS C w B0 v wr N m l D) (k : Below wr.heap.size wr w') : OrdS C w B0 v w' N m l D := ⟨h.side.below k, h.mo, h.hp⟩
theorem OrdS.start (h : OrdS C w B0 v wr N m l D) (k : Below wr.heap.size wr w') : OrdS C w wr.heap.size w' w' N m l D := ⟨h.side.start k, h.mo, h.hp⟩
theorem OrdS.map (h : OrdS C w B0 v wr N m l D) : MapI wr m l.length D := by
  obtain ⟨n, k⟩ := h.side.mmap
  rw [← h.mo.size]
  exact k.tight
theorem OrdS.len (h : OrdS C w B0 v wr N m l D) (ty : TypeId) : (Builtin.len_ #[59] ty #[.map (some m)]).run Try.prog wr = .ok (.int .i64 (l.length : Nat)) wr := by
  rw [← h.mo.size]
  exact h.map.len_run ty
/-- What is looked up. -/
theorem OrdS.key (h : OrdS C w B0 v wr N m l D) (d : Nat) : ∃ y B, D.atKey (ki d) (datI zeroI) = datI y ∧ Maps.has D (ki d) = B ∧ ((B = true ∧ y ∈ l ∧ y.id = d ∧ ∃ k, place l d = some k ∧ gt l k = y) ∨ (B = false ∧ y = zeroI ∧ place l d = none ∧ d ∉ l.map It.id)) := by
  cases e : place l d with
  | none =>
    have n : d ∉ l.map It.id := fun q => by
      obtain ⟨x, hx, e2⟩ := List.mem_map.1 q
      obtain ⟨k, hk, e3⟩ := mem_gt hx
      exact place_none e hk (by rw [e3, e2])
    obtain ⟨a, b⟩ := h.mo.none n (datI zeroI)
    exact ⟨zeroI, false, b, a, .inr ⟨rfl, rfl, rfl, n⟩⟩
  | some k =>
    obtain ⟨hk, e2⟩ := place_some e
    exact ⟨gt l k, true, by rw [← e2]; exact h.mo.at_ _ (gt_mem hk) _, (h.mo.has _).2 (by rw [← e2]; exact List.mem_map.2 ⟨_, gt_mem hk, rfl⟩), .inl ⟨rfl, gt_mem hk, e2, k, rfl, rfl⟩⟩
end
/-- The range's step: an item comes, or nothing is left. -/
theorem wpList_next_it (w : World) {ops : Array Oper} {rest : List Oper} {o : Oper} {a : Act} {Q : Exit → Act → World → Prop} (hg : o.guard = none) (it : Operand) (hop : o.op = Op.next it false)
    (m r n : Nat) (D : DataW Unit) (left : Lit → Bool) (cnt : Nat) (l : List It) (hit : a.eval it = .pointer (some ⟨r, 0, none⟩)) (h : RangeI w m r n D left cnt) (mo : MoD D l) (hl : ∀ kl, left kl = true → Maps.has D kl = true)
    (hDone : cnt = 0 → (∀ kl, left kl = false) → wpList Try.prog ops Q rest (a.put o.dst (.tuple #[.bool false])) w)
    (hMore : ∀ (x : It) (w' : World) (cnt' : Nat), x ∈ l → left (ki x.id) = true → RangeI w' m r n D (fun z => left z && !z.sameKey (ki x.id)) cnt' → cnt' < cnt → w.grownBy w' (some r) →
      (Instr.entry (.pointer (some ⟨r, 0, none⟩))).run Try.prog w' = .ok (.tuple #[.int .u64 (x.id : Nat), itV x]) w' → wpList Try.prog ops Q rest (a.put o.dst (.tuple #[.bool true, .int .u64 (x.id : Nat), itV x])) w') :
    wpList Try.prog ops Q (o :: rest) a w := by
  refine wpList_plain hg fun K' hK' => ?_
  unfold Oper.wp
  rcases World.ranges.next h lawI o.type with ⟨h0, hlf, hrun⟩ | ⟨key, v, kl, y, w', cnt', hkey, hlk, hv, hat, hrun, hrg, hlt, hgr, hsz, hen⟩
  · simp [execOp, hop, hit, hrun, Result.andThen]
    exact hK' _ _ (hDone h0 hlf)
  · obtain ⟨z, rfl, rfl, wz⟩ := Maps.keyOf_int_inv Try.underlying32 hkey
    have z0 : 0 ≤ z := (word_of_wf wz).1
    obtain ⟨d, rfl⟩ : ∃ d : Nat, z = (d : Int) := ⟨z.toNat, by omega⟩
    obtain ⟨x, hx, rfl⟩ := mo.key (d := d) (hl _ hlk)
    have e1 : datI x = y.1 := (mo.at_ x hx (datI zeroI)).symm.trans (hat _)
    obtain ⟨y1, y2⟩ := y
    have e2 : y1 = datI x := e1.symm
    subst e2
    obtain rfl := RI_inv hv
    simp [execOp, hop, hit, hrun, Result.andThen]
    exact hK' _ _ (hMore x w' cnt' hx hlk hrg hlt hgr hen)
/-- A parent's place, as the law reckons it. -/
theorem par_nums {j nl : Nat} (h0 : 0 < j) (hj : j < nl) (hn : nl ≤ 60) : ∃ (q2 : Nat) (u : Int), par j = q2 ∧ q2 < nl ∧ (j : Int) - 1 = u ∧ u.tdiv 4 = (q2 : Int) ∧ wrap64 u = u ∧ IntKind.i64.wrap u = u ∧ wrap64 (q2 : Int) = (q2 : Int) ∧ IntKind.i64.wrap (q2 : Int) = (q2 : Int) ∧ (0 : Int) ≤ (q2 : Int) ∧ (q2 : Int) < (nl : Int) := by
  have qj := par_lt h0
  refine ⟨par j, (j : Int) - 1, rfl, by omega, rfl, ?_, by unfold wrap64; omega, by rw [IntKind.wrap_i64]; omega, by unfold wrap64; omega, by rw [IntKind.wrap_i64]; omega, by omega, by omega⟩
  rw [Int.tdiv_eq_ediv_of_nonneg (by omega)]
  unfold par
  omega
/-- A row's item of another place, and Ahead of it. -/
theorem ord_row (C : HCode) {w20 w23 : World} {a2 : Addr} {nl c2 q2 : Nat} {L1 : List It} {x : It} (HR : HoldsI w20 (some a2) nl c2 L1) (L23 : Below w20.heap.size w20 w23) (hq : q2 < nl) (hh : ahd x (gt L1 q2) = false) :
    ∃ y2 : It, (∀ w', Below w23.heap.size w23 w' → Calls Try.prog 27 #[.agg #[.int .u64 (x.id : Nat), .int .u64 (x.seq : Nat), .int .i64 x.t], .agg #[.int .u64 (y2.id : Nat), .int .u64 (y2.seq : Nat), .int .i64 y2.t]] w' fun e w'' => e = .returned (.bool false) ∧ Below w23.heap.size w23 w'') ∧
      ∀ w', Below w23.heap.size w23 w' → w'.cell? (a2.add (q2 * 3)) = some (.int .u64 (y2.id : Nat)) ∧ w'.cell? ⟨(a2.add (q2 * 3)).block, (a2.add (q2 * 3)).off + 1, none⟩ = some (.int .u64 (y2.seq : Nat)) ∧ w'.cell? ⟨(a2.add (q2 * 3)).block, (a2.add (q2 * 3)).off + 2, none⟩ = some (.int .i64 y2.t) := by
  refine ⟨gt L1 q2, fun w' b => (C.ahead w' x (gt L1 q2)).mono fun e w'' ⟨e1, b1⟩ => ⟨by rw [e1, hh], b.trans (b1.mono b.size)⟩, fun w' b => ?_⟩
  obtain ⟨a3, e4, y0, y1, y2⟩ := (HR.below (L23.trans (b.mono L23.size))).at hq
  injection e4 with e4
  subst e4
  exact ⟨y0, y1, y2⟩
/-- A new map. -/
theorem ord_new {C : HCode} {w w6 w7 : World} {N : Nat} (h : HAt C w w6 N 60 []) (b : Below w6.heap.size w6 w7) {m : Nat} (hm : MapI w7 m 0 (.map [])) (n : w6.heap.size ≤ m) : OrdS C w w7.heap.size w7 w7 N m [] (.map []) := by
  obtain ⟨F, f, u⟩ := h.out
  have f7 := C.below f b
  refine ⟨⟨⟨F, fun J => J = m, fun _ => False, f7, ⟨⟨0, hm⟩, fun _ => Iff.rfl⟩, fun _ z => z, fun K z => ?_, fun K => ⟨fun a z => ?_, fun _ z => z, fun _ z => z⟩⟩, fun _ _ _ => rfl, h.low.trans (b.mono h.low.size), Nat.le_refl _⟩, mo_nil, Heap.nil⟩
  · rcases z with z | z | z
    · exact ⟨u K z, .inl (C.lt f7 K z)⟩
    · exact ⟨by rw [z]; exact Nat.le_trans h.low.size n, .inl (by rw [z]; exact World.ownsMap.lt hm)⟩
    · exact z.elim
  · have := C.lt f K a
    omega
end Go.Proofs.Ytlfbenlojiiknaa
