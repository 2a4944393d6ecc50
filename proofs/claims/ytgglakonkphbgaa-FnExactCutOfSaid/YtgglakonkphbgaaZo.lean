/- What NameExists of program and model returns. -/
import Derived.Test.YtgglakonkphbgaaZj
import Derived.Test.YtgglakonkphbgaaMg
namespace Go.Proofs.Ytgglakonkphbgaa
open Go.RowKit
set_option maxRecDepth 100000
set_option linter.unusedVariables false
set_option linter.unusedSimpArgs false

def belowP (nm : Z.Str) (x : Z.Rec) : Bool := Z.below x.name nm
def insideB (o : Z.Str) (zs : List Z.Rec) (nm : Z.Str) : Bool := Z.zoneValid o zs && Z.below nm o
def existsB (o : Z.Str) (zs : List Z.Rec) (nm : Z.Str) : Bool := insideB o zs nm && zs.any (belowP nm)
theorem below_valid {a b : Z.Str} (h : Z.valid a = false) : Z.below a b = false := by
  cases hb : Z.below a b with
  | false => rfl
  | true => rw [(Z.below_iff.1 hb).1] at h; cases h
theorem zone_names {o : Z.Str} {zs : List Z.Rec} (h : Z.zoneValid o zs = true) : (∀ x ∈ zs, Z.valid x.name = true) ∧ Z.valid o = true :=
  ⟨fun x hx => (Z.recValid_iff.1 ((Z.zoneValid_iff.1 h).each x hx).1).1, (Z.zoneValid_iff.1 h).origin⟩

set_option maxHeartbeats 4000000 in
theorem l5Exists_any (o nm : ByteArray) (rs : List RV) (B : Nat) (A : Option Addr) (n c : Nat) (w : World) (hr : Recs w B A n rs) (hB : B ≤ w.heap.size) (hn : n ≤ 67108864) (hf : Hid (∀ r ∈ rs, r.fine)) (hm : nm.size ≤ 67108864) (hv : Hid (∀ x ∈ rs.map RV.z, Z.valid x.name = true)) (hvn : Hid (Z.valid (lst nm) = true)) (u : Bool) (hu : Hid ((rs.map RV.z).any (belowP (lst nm)) = u)) :
    Calls Try.prog 39 #[.agg #[.string o, .slice A n c], .string nm] w fun e w' => e = .returned (.bool u) ∧ Below w.heap.size w w' := by
  have hlen := hid hr.2.1
  have hx0 := Held.box w [.string o, .slice A n c] 30
  go_enter Try.func39, Try.ntmps39
  go_wp2_with fail
  go_loopw [5] (fun v wr => ∃ k : Nat, k ≤ n ∧ v = .int .i64 k ∧ Hid (((rs.map RV.z).take k).any (belowP (lst nm)) = false) ∧ Held w wr w.heap.size [.string o, .slice A n c]) (fun v _ => n - (intOf v).toNat)
  case atStart => exact ⟨0, Nat.zero_le _, rfl, hid rfl, hx0⟩
  case round =>
    obtain ⟨k, hk, rfl, hinv, hx⟩ := hrel
    clear hx0
    obtain ⟨s0, s1⟩ := hx.cells2
    by_cases hlt : k < n
    · obtain ⟨ad, r, p, rfl, hp, hab, hrk, hrr, c0, c1, c2, c3, c4, c5⟩ := (hr.below hx.1 hB).at_ hlt
      have HZK := hid (zat hrk)
      have hfn := (hf.out r (List.mem_of_getElem? hrk)).1
      have HVR := hid (hv.out r.z (List.mem_of_getElem? HZK.out))
      have p1 : 0 ≤ (k : Int) := by omega
      have p2 : (k : Int) < n := by omega
      clear hrk hrr c1 c2 c3 c4 c5
      go_wp2_with fail
      refine (l1Ends_any r.N nm hfn hm _).mono ?_
      rintro e w2 ⟨m, rfl, hme, hb2⟩
      have hx2 := hx.next hb2
      clear hb2
      obtain ⟨y, hy⟩ : ∃ y, belowP (lst nm) r.z = y := ⟨_, rfl⟩
      have HY := hid hy
      clear hy
      cases y with
      | true =>
        obtain rfl : u = true := by rw [← hu.out]; exact List.any_eq_true.2 ⟨r.z, List.mem_of_getElem? HZK.out, HY.out⟩
        have hm0 : 0 ≤ m := by
          have h1 := (Z.below_iff.1 HY.out).2.2
          have h2 := hme.out.1 h1
          have h3 := h1.length_le
          have h4 : r.z.name = lst r.N := rfl
          rw [h4] at h3
          omega
        go_wp2_with fail
        go_ret
        exact ⟨rfl, hx2.1⟩
      | false =>
        have hm0 : m < 0 := hme.out.2 (fun h => by
          have := Z.below_iff.2 ⟨HVR.out, hvn.out, h⟩
          have h9 := HY.out
          unfold belowP at h9
          rw [this] at h9
          cases h9)
        have hnx : Hid (((rs.map RV.z).take (k + 1)).any (belowP (lst nm)) = false) := hid (by rw [any_take_succ HZK.out, hinv.out, HY.out]; rfl)
        go_wp2_with fail
        exact ⟨⟨k + 1, by omega, by go_num, hnx, hx2⟩, by simp [intOf]; omega⟩
    · obtain rfl : k = n := by omega
      obtain rfl : u = false := by
        have h := hinv.out
        rw [List.take_of_length_le (by rw [List.length_map, hlen.out]; omega), hu.out] at h
        exact h
      go_wp2_with fail
      go_ret
      exact ⟨rfl, hx.1⟩

theorem l5Right_any (o nm : ByteArray) (rs : List RV) (B : Nat) (A : Option Addr) (n c : Nat) (w : World) (hr : Recs w B A n rs) (hB : B ≤ w.heap.size) (hn : n ≤ 67108864) (hf : Hid (∀ r ∈ rs, r.fine)) (ho : o.size ≤ 67108864) (hm : nm.size ≤ 67108864) (u : Bool) (hu : Hid ((Z.zoneValid (lst o) (rs.map RV.z) && Z.valid (lst nm)) = u)) :
    Calls Try.prog 37 #[.agg #[.string o, .slice A n c], .string nm] w fun e w' => e = .returned (.bool u) ∧ Below w.heap.size w w' := by
  have hx0 := Held.box w [.string o, .slice A n c] 30
  obtain ⟨v, hv⟩ : ∃ v, Z.zoneValid (lst o) (rs.map RV.z) = v := ⟨_, rfl⟩
  have hu1 := hu.out
  rw [hv] at hu1
  have HV := hid hv
  have HU := hid hu1
  clear hv hu1 hu
  go_enter Try.func37, Try.ntmps37
  go_wp2_with fail
  refine (ZoneValid_any o rs B A n c _ (hr.below hx0.1 hB) (hx0.up hB) hn hf ho v HV).mono ?_
  rintro e w2 ⟨rfl, hb2⟩
  have hx2 := hx0.next hb2
  cases v with
  | false =>
    obtain rfl : u = false := HU.out.symm
    go_wp2_with fail
    go_ret
    exact ⟨rfl, hx2.1⟩
  | true =>
    go_wp2_with fail
    refine (NameValid_eqB nm u (hid HU.out) hm _).mono ?_
    rintro e w3 ⟨rfl, hb3⟩
    go_wp2_with fail
    go_ret
    exact ⟨rfl, (hx2.next hb3).1⟩

set_option maxHeartbeats 4000000 in
theorem NameExists_any (o nm : ByteArray) (rs : List RV) (B : Nat) (A : Option Addr) (n c : Nat) (w : World) (hr : Recs w B A n rs) (hB : B ≤ w.heap.size) (hn : n ≤ 67108864) (hf : Hid (∀ r ∈ rs, r.fine)) (ho : o.size ≤ 67108864) (hm : nm.size ≤ 67108864) (u : Bool) (hu : Hid (existsB (lst o) (rs.map RV.z) (lst nm) = u)) :
    Calls Try.prog 17 #[.agg #[.string o, .slice A n c], .string nm] w fun e w' => e = .returned (.bool u) ∧ Below w.heap.size w w' := by
  have hx0 := Held.box w [.string o, .slice A n c] 30
  obtain ⟨v, hv⟩ : ∃ v, (Z.zoneValid (lst o) (rs.map RV.z) && Z.valid (lst nm)) = v := ⟨_, rfl⟩
  have HV := hid hv
  clear hv
  go_enter Try.func17, Try.ntmps17
  go_wp2_with fail
  refine (l5Right_any o nm rs B A n c _ (hr.below hx0.1 hB) (hx0.up hB) hn hf ho hm v HV).mono ?_
  rintro e w2 ⟨rfl, hb2⟩
  have hx2 := hx0.next hb2
  clear hx0 hb2
  obtain ⟨s0, s1⟩ := hx2.cells2
  cases v with
  | false =>
    obtain rfl : u = false := by
      rw [← hu.out]
      unfold existsB insideB
      have h := HV.out
      rcases Bool.and_eq_false_iff.1 h with h1 | h1
      · rw [h1]; rfl
      · rw [below_valid h1, Bool.and_false]; rfl
    go_wp2_with fail
    go_ret
    exact ⟨rfl, hx2.1⟩
  | true =>
    have hz := (Bool.and_eq_true_iff.1 HV.out).1
    have hvn := (Bool.and_eq_true_iff.1 HV.out).2
    obtain ⟨hnames, hvo⟩ := zone_names hz
    have HN := hid hnames
    have HVN := hid hvn
    have HVO := hid hvo
    have hu1 := hu.out
    unfold existsB insideB at hu1
    rw [hz, Bool.true_and] at hu1
    obtain ⟨vb, hvb⟩ : ∃ vb, Z.below (lst nm) (lst o) = vb := ⟨_, rfl⟩
    rw [hvb] at hu1
    have HVB := hid hvb
    have HU := hid hu1
    clear hz hvn hnames hvo hu1 hvb
    go_wp2_with fail
    refine (l1Ends_any nm o hm ho _).mono ?_
    rintro e w3 ⟨m, rfl, hme, hb3⟩
    have hx3 := hx2.next hb3
    clear hx2 hb3 s0 s1
    obtain ⟨s0, s1⟩ := hx3.cells2
    cases vb with
    | false =>
      obtain rfl : u = false := HU.out.symm
      have hm0 : m < 0 := hme.out.2 (fun h => by
        have := Z.below_iff.2 ⟨HVN.out, HVO.out, h⟩
        rw [HVB.out] at this
        cases this)
      go_wp2_with fail
      go_ret
      exact ⟨rfl, hx3.1⟩
    | true =>
      have hm0 : 0 ≤ m := by
        have h1 := (Z.below_iff.1 HVB.out).2.2
        have h2 := hme.out.1 h1
        have h3 := h1.length_le
        omega
      clear hme
      go_wp2_with fail
      refine (l5Exists_any o nm rs B A n c _ (hr.below hx3.1 hB) (hx3.up hB) hn hf hm HN HVN u (hid HU.out)).mono ?_
      rintro e w4 ⟨rfl, hb4⟩
      go_wp2_with fail
      go_ret
      exact ⟨rfl, (hx3.next hb4).1⟩

theorem isInside_any (o nm : ByteArray) (rs : List RV) (B : Nat) (A : Option Addr) (n c : Nat) (w : World) (hr : Recs w B A n rs) (hB : B ≤ w.heap.size) (hn : n ≤ 67108864) (hnc : n ≤ c) (hf : Hid (∀ r ∈ rs, r.fine)) (ho : o.size ≤ 67108864) (hm : nm.size ≤ 67108864) (u : Bool) (hu : Hid (insideB (lst o) (rs.map RV.z) (lst nm) = u)) :
    Calls Try.prog 40 #[.agg #[.string o, .slice A n c], .string nm] w fun e w' => e = .returned (.bool u) ∧ Below w.heap.size w w' := by
  have hx0 := Held.box w [.string o, .slice A n c] 30
  obtain ⟨v, hv⟩ : ∃ v, Z.zoneValid (lst o) (rs.map RV.z) = v := ⟨_, rfl⟩
  have hu1 := hu.out
  unfold insideB at hu1
  rw [hv] at hu1
  have HV := hid hv
  have HU := hid hu1
  clear hv hu1 hu
  go_enter Try.func40, Try.ntmps40
  go_wp2_with fail
  refine (iZoneValid_any o rs B A n c _ (hr.below hx0.1 hB) (hx0.up hB) hn hnc hf ho v HV).mono ?_
  rintro e w2 ⟨rfl, hb2⟩
  have hx2 := hx0.next hb2
  obtain ⟨s0, s1⟩ := hx2.cells2
  clear hx0 hb2
  cases v with
  | false =>
    obtain rfl : u = false := HU.out.symm
    go_wp2_with fail
    go_ret
    exact ⟨rfl, hx2.1⟩
  | true =>
    go_wp2_with fail
    refine (iIsBelow_eqB nm o u (hid HU.out) hm ho _).mono ?_
    rintro e w3 ⟨rfl, hb3⟩
    go_wp2_with fail
    go_ret
    exact ⟨rfl, (hx2.next hb3).1⟩

theorem hasRecordBelow1_any (rN : ByteArray) (rT rK : Int) (rA : Option Addr) (rL rC : Nat) (rG rX : ByteArray) (g : Nat) (nm : ByteArray) (W : World) (hg : g < W.heap.size) (hc : W.cell? ⟨g, 0, none⟩ = some (.string nm)) (h1 : rN.size ≤ 67108864) (h2 : nm.size ≤ 67108864) (u : Bool) (hu : Hid (Z.below (lst rN) (lst nm) = u)) :
    Calls Try.prog 59 #[.agg #[.string rN, .int .i64 rT, .int .i64 rK, .slice rA rL rC, .string rG, .string rX], .pointer (some ⟨g, 0, none⟩)] W fun e W' => e = .returned (.bool u) ∧ Below W.heap.size W W' := by
  have hb1 : Below W.heap.size W (W.alloc (.cells #[.string rN, .int .i64 rT, .int .i64 rK, .slice rA rL rC, .string rG, .string rX] 54)) := (Below.refl _ _).alloc (Nat.le_refl _) _
  go_enter Try.func59, Try.ntmps59
  go_wp2_with fail
  refine (iIsBelow_eqB rN nm u hu h1 h2 _).mono ?_
  rintro e w3 ⟨rfl, hb3⟩
  go_wp2_with fail
  go_ret
  exact ⟨rfl, hb1.trans (hb3.mono (by simp))⟩

theorem hasRecordBelow_any (o nm : ByteArray) (rs : List RV) (B : Nat) (A : Option Addr) (n c : Nat) (w : World) (hr : Recs w B A n rs) (hB : B ≤ w.heap.size) (hn : n ≤ 67108864) (hf : Hid (∀ r ∈ rs, r.fine)) (hm : nm.size ≤ 67108864) (u : Bool) (hu : Hid ((rs.map RV.z).any (belowP (lst nm)) = u)) :
    Calls Try.prog 41 #[.agg #[.string o, .slice A n c], .string nm] w fun e w' => e = .returned (.bool u) ∧ Below w.heap.size w w' := by
  have hy0 := (Held.box w [.string o, .slice A n c] 30).again (cs' := [.string nm]) 9 (w.heap.size + 1) (by simp)
  go_enter Try.func41, Try.ntmps41
  go_wp2_with fail
  refine (ContainsFuncBelow_any (.pointer (some ⟨w.heap.size + 1, 0, none⟩)) (belowP (lst nm)) rs B A n c _ (hr.below hy0.1 hB) (hy0.up hB) hn (hid (fun r W hrm hb => by
    have hy := hy0.next hb
    exact hasRecordBelow1_any r.N r.T r.K r.A r.L r.C r.G r.X (w.heap.size + 1) nm W hy.2.2.1 (hy.2.2.2 0 _ rfl) (hf.out r hrm).1 hm _ (hid rfl))) u hu).mono ?_
  rintro e w3 ⟨rfl, hb3⟩
  go_wp2_with fail
  go_ret
  exact ⟨rfl, (hy0.next hb3).1⟩

theorem iNameExists_any (o nm : ByteArray) (rs : List RV) (B : Nat) (A : Option Addr) (n c : Nat) (w : World) (hr : Recs w B A n rs) (hB : B ≤ w.heap.size) (hn : n ≤ 67108864) (hnc : n ≤ c) (hf : Hid (∀ r ∈ rs, r.fine)) (ho : o.size ≤ 67108864) (hm : nm.size ≤ 67108864) (u : Bool) (hu : Hid (existsB (lst o) (rs.map RV.z) (lst nm) = u)) :
    Calls Try.prog 18 #[.agg #[.string o, .slice A n c], .string nm] w fun e w' => e = .returned (.bool u) ∧ Below w.heap.size w w' := by
  have hx0 := Held.box w [.string o, .slice A n c] 30
  obtain ⟨v, hv⟩ : ∃ v, insideB (lst o) (rs.map RV.z) (lst nm) = v := ⟨_, rfl⟩
  have hu1 := hu.out
  unfold existsB at hu1
  rw [hv] at hu1
  have HV := hid hv
  have HU := hid hu1
  clear hv hu1 hu
  go_enter Try.func18, Try.ntmps18
  go_wp2_with fail
  refine (isInside_any o nm rs B A n c _ (hr.below hx0.1 hB) (hx0.up hB) hn hnc hf ho hm v HV).mono ?_
  rintro e w2 ⟨rfl, hb2⟩
  have hx2 := hx0.next hb2
  obtain ⟨s0, s1⟩ := hx2.cells2
  clear hx0 hb2
  cases v with
  | false =>
    obtain rfl : u = false := HU.out.symm
    go_wp2_with fail
    go_ret
    exact ⟨rfl, hx2.1⟩
  | true =>
    go_wp2_with fail
    refine (hasRecordBelow_any o nm rs B A n c _ (hr.below hx2.1 hB) (hx2.up hB) hn hf hm u (hid HU.out)).mono ?_
    rintro e w3 ⟨rfl, hb3⟩
    go_wp2_with fail
    go_ret
    exact ⟨rfl, (hx2.next hb3).1⟩

theorem NameExists_law {w W : World} {o nm : ByteArray} {rs : List RV} {aA A : Option Addr} {aL c : Nat} (hra : Recs w w.heap.size aA aL rs) (h1 : Copy W rs A aL) (hs : Hid (∀ r ∈ rs, r.small)) (la : aL ≤ 1048576) (ho : o.size ≤ 1048576) (hm : nm.size ≤ 1048576) (v : Bool) (hv : Hid (existsB (lst o) (rs.map RV.z) (lst nm) = v)) :
    Calls Try.prog 17 #[.agg #[.string o, .slice A aL c], .string nm] W fun e W' => e = .returned (.bool v) ∧ Below W.heap.size W W' := by
  obtain ⟨os, z1, r1⟩ := h1.ex
  exact NameExists_any o nm os _ A aL c W r1 (Nat.le_refl _) (by omega) (fine_of z1 r1 hra hs) (by omega) (by omega) v (hid (by rw [z1]; exact hv.out))
theorem iNameExists_law {w W : World} {o nm : ByteArray} {rs : List RV} {aA A : Option Addr} {aL c : Nat} (hra : Recs w w.heap.size aA aL rs) (h1 : Copy W rs A aL) (hs : Hid (∀ r ∈ rs, r.small)) (la : aL ≤ 1048576) (ho : o.size ≤ 1048576) (hm : nm.size ≤ 1048576) (hc : aL ≤ c) (v : Bool) (hv : Hid (existsB (lst o) (rs.map RV.z) (lst nm) = v)) :
    Calls Try.prog 18 #[.agg #[.string o, .slice A aL c], .string nm] W fun e W' => e = .returned (.bool v) ∧ Below W.heap.size W W' := by
  obtain ⟨os, z1, r1⟩ := h1.ex
  exact iNameExists_any o nm os _ A aL c W r1 (Nat.le_refl _) (by omega) hc (fine_of z1 r1 hra hs) (by omega) (by omega) v (hid (by rw [z1]; exact hv.out))
end Go.Proofs.Ytgglakonkphbgaa
