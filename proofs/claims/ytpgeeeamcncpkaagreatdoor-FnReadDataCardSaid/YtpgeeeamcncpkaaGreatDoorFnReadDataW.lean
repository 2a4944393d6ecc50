/- The walk of FnReadData: what the statement's program does at every input. -/
import Derived.Test.YtpgeeeamcncpkaaGreatDoorTie
import Derived.Test.YtpgeeeamcncpkaaGreatDoorCards
import Derived.Test.YtpgeeeamcncpkaaGreatDoorHb
import Derived.Test.YtpgeeeamcncpkaaGreatDoorNy
import Derived.Test.YtpgeeeamcncpkaaGreatDoorTc
import Derived.Test.YtpgeeeamcncpkaaGreatDoorRi
import Derived.Test.YtpgeeeamcncpkaaGreatDoorWl
import Derived.Test.YtpgeeeamcncpkaaGreatDoorRe
import Derived.Deep.RegionWith
import Derived.Outline
namespace Go.Proofs.YtpgeeeamcncpkaaGreatDoor.fnReadData
open Go.ChangeShapes Go.WideShapes Go.ChangeAt Go.RowKit
open Go.ChangeMaps (open_string shut_string)
set_option linter.unusedVariables false

theorem own : ownKnob Tryz.prog.godebug = none := by kernel_rfl
theorem laidOut : laidOutB Tryz.prog = true := by kernel_rfl
theorem ReadData_eq (aN : ByteArray) (aT aK : Int) (rA : Option Addr) (rL rC : Nat) (rG rX : ByteArray) (fs : List Z.Str) (B : Nat) (A : Option Addr) (c : Nat) (or : ByteArray) (w : World) (hr : Reads w B A fs.length (fs.map sv)) (hB : B ≤ w.heap.size) (hcap : fs.length ≤ c) (hlen : fs.length ≤ 67108864) (hor : or.size ≤ 67108864) (hnm : aN.size ≤ 67108864) (hsz : Hid (∀ l ∈ fs, l.length ≤ 67108864)) (o : Option Z.Rec) (ho : Hid (Z.readData (lst aN) aT aK fs (lst or) = o)) (ok : Bool) (hok : Hid (o.isSome = ok)) :
    Calls Tryz.prog 16 #[.agg #[.string aN, .int .i64 aT, .int .i64 aK, .slice rA rL rC, .string rG, .string rX], .slice A fs.length c, .string or] w fun e w' => ∃ (N : ByteArray) (T K : Int) (A : Option Addr) (L c : Nat) (x y : ByteArray) (ns : List Int), e = .returned (.tuple #[.agg #[.string N, .int .i64 T, .int .i64 K, .slice A L c, .string x, .string y], .bool ok]) ∧ w'.ownsRow w.heap.size 3 1 (.slice A L c) L (ns.map iv) ∧ o.getD noRec = ⟨lst N, T, K, ns, lst x, lst y⟩ ∧ L ≤ 7 ∧ Below w.heap.size w w' := by
  have h := ReadData_any aN aT aK rA rL rC rG rX fs B A c or w hr hB hcap hlen hor hnm hsz
  unfold ParseOut at h
  rw [ho.out, hok.out] at h
  exact h
theorem iReadData_eq (aN : ByteArray) (aT aK : Int) (rA : Option Addr) (rL rC : Nat) (rG rX : ByteArray) (fs : List Z.Str) (B : Nat) (A : Option Addr) (c : Nat) (or : ByteArray) (w : World) (hm : MX w) (hr : Reads w B A fs.length (fs.map sv)) (hB : B ≤ w.heap.size) (hcap : fs.length ≤ c) (hlen : fs.length ≤ 67108864) (hor : or.size ≤ 67108863) (hnm : aN.size ≤ 67108863) (hsz : Hid (∀ l ∈ fs, l.length ≤ 67108863)) (o : Option Z.Rec) (ho : Hid (Z.readData (lst aN) aT aK fs (lst or) = o)) (ok : Bool) (hok : Hid (o.isSome = ok)) :
    Calls Tryz.prog 15 #[.agg #[.string aN, .int .i64 aT, .int .i64 aK, .slice rA rL rC, .string rG, .string rX], .slice A fs.length c, .string or] w fun e w' => ∃ (N : ByteArray) (T K : Int) (A : Option Addr) (L c : Nat) (x y : ByteArray) (ns : List Int), e = .returned (.tuple #[.agg #[.string N, .int .i64 T, .int .i64 K, .slice A L c, .string x, .string y], .bool ok]) ∧ w'.ownsRow w.heap.size 3 1 (.slice A L c) L (ns.map iv) ∧ o.getD noRec = ⟨lst N, T, K, ns, lst x, lst y⟩ ∧ L ≤ 7 ∧ Below w.heap.size w w' := by
  have h := iReadData_any aN aT aK rA rL rC rG rX fs B A c or w hm hr hB hcap hlen hor hnm hsz
  unfold ParseOut at h
  rw [ho.out, hok.out] at h
  exact h
theorem iWriteLine_eq (aN : ByteArray) (aT aK : Int) (aA : Option Addr) (aL aC : Nat) (aG aX : ByteArray) (aZ : List Int) (aB : Nat) (or ow : ByteArray) (w : World) (hra : Reads w aB aA aL (aZ.map iv)) (hba : aB ≤ w.heap.size) (hla : aL ≤ 67108864) (hsa : aN.size ≤ 67108864) (hga : aG.size ≤ 67108864) (hxa : aX.size ≤ 67108864) (hors : or.size ≤ 67108864) (how : ow.size ≤ 67108864) (hkt : KT w) (hpt : PT w) (D : ByteArray) (ok : Bool) (hD : Hid (bs ((Z.writeLine (⟨lst aN, aT, aK, aZ, lst aG, lst aX⟩ : Z.Rec) (lst or) (lst ow)).getD []) = D)) (hok : Hid ((Z.writeLine (⟨lst aN, aT, aK, aZ, lst aG, lst aX⟩ : Z.Rec) (lst or) (lst ow)).isSome = ok)) :
    Calls Tryz.prog 18 #[.agg #[.string aN, .int .i64 aT, .int .i64 aK, .slice aA aL aC, .string aG, .string aX], .string or, .string ow] w fun e w' => e = .returned (.tuple #[.string D, .bool ok]) ∧ Below w.heap.size w w' := by
  have h := iWriteLine_any aN aT aK aA aL aC aG aX aZ aB or ow w hra hba hla hsa hga hxa hors how hkt hpt
  unfold rOpt at h
  rw [hD.out, hok.out] at h
  exact h
theorem recSame_true (aN : ByteArray) (aT aK : Int) (aA : Option Addr) (aL aC : Nat) (aG aX : ByteArray) (aZ : List Int) (aB : Nat) (bA : Option Addr) (bC bB : Nat) (w : World) (hra : Reads w aB aA aL (aZ.map iv)) (hba : aB ≤ w.heap.size) (hla : aL ≤ 67108864) (hrb : Reads w bB bA aL (aZ.map iv)) (hbb : bB ≤ w.heap.size) :
    Calls Tryz.prog 17 #[.agg #[.string aN, .int .i64 aT, .int .i64 aK, .slice aA aL aC, .string aG, .string aX], .agg #[.string aN, .int .i64 aT, .int .i64 aK, .slice bA aL bC, .string aG, .string aX]] w fun e w' => e = .returned (.bool true) ∧ Below w.heap.size w w' := by
  have h := iRecordSame_any aN aT aK aA aL aC aG aX aZ aB aN aT aK bA aL bC aG aX aZ bB w hra hba hla hrb hbb hla
  rw [(Z.recSame_iff _ _).2 rfl] at h
  exact h
theorem iFields_v (s : ByteArray) (hs : s.size ≤ 67108860) (fs : List Z.Str) (b : Bool) (hfs : Hid ((Z.fields (lst s)).getD [] = fs)) (hb : Hid ((Z.fields (lst s)).isSome = b)) (w : World) (hm : MX w) :
    Calls Tryz.prog 19 #[.string s] w fun e w' => ∃ A q, e = .returned (.tuple #[.slice A fs.length q, .bool b]) ∧ w'.ownsRow w.heap.size 9 1 (.slice A fs.length q) fs.length (fs.map sv) ∧ Below w.heap.size w w' := by
  refine (iFieldsOf_any s hs w hm).mono ?_
  rintro e w' ⟨A, n, q, rfl, rfl, ho, hw⟩
  rw [hfs.out] at ho ⊢
  rw [hb.out]
  exact ⟨A, q, rfl, ho, hw⟩
theorem iReadData_n (aN : ByteArray) (aT aK : Int) (rA : Option Addr) (rL rC : Nat) (rG rX : ByteArray) (fs : List Z.Str) (B : Nat) (A : Option Addr) (n c : Nat) (or : ByteArray) (w : World) (hm : MX w) (hr : Reads w B A n (fs.map sv)) (hB : B ≤ w.heap.size) (hcap : n ≤ c) (hlen : n ≤ 67108864) (hor : or.size ≤ 67108863) (hnm : aN.size ≤ 67108863) (hsz : Hid (∀ l ∈ fs, l.length ≤ 67108863)) (o : Option Z.Rec) (ho : Hid (Z.readData (lst aN) aT aK fs (lst or) = o)) (ok : Bool) (hok : Hid (o.isSome = ok)) :
    Calls Tryz.prog 15 #[.agg #[.string aN, .int .i64 aT, .int .i64 aK, .slice rA rL rC, .string rG, .string rX], .slice A n c, .string or] w fun e w' => ∃ (N : ByteArray) (T K : Int) (A : Option Addr) (L c : Nat) (x y : ByteArray) (ns : List Int), e = .returned (.tuple #[.agg #[.string N, .int .i64 T, .int .i64 K, .slice A L c, .string x, .string y], .bool ok]) ∧ w'.ownsRow w.heap.size 3 1 (.slice A L c) L (ns.map iv) ∧ o.getD noRec = ⟨lst N, T, K, ns, lst x, lst y⟩ ∧ L ≤ 7 ∧ Below w.heap.size w w' := by
  have hn : n = fs.length := by have := hr.1; simpa using this.symm
  subst hn
  exact iReadData_eq aN aT aK rA rL rC rG rX fs B A c or w hm hr hB hcap hlen hor hnm hsz o ho ok hok
theorem own_six {w : World} {base : Nat} {e : TypeId} {size : Nat} {v : Value} {n : Nat} {xs : List Value} {g : Nat} {t : TypeId} {c0 c1 c2 c3 c4 c5 : Value} (h : w.ownsRow base e size v n xs) (hx : Blk w g t [c0, c1, c2, c3, c4, c5]) (hne : t ≠ e) (d0 d1 d2 d3 d4 d5 : Value) :
    ((((((w.setCell ⟨g, 0, none⟩ d0).setCell ⟨g, 1, none⟩ d1).setCell ⟨g, 2, none⟩ d2).setCell ⟨g, 3, none⟩ d3).setCell ⟨g, 4, none⟩ d4).setCell ⟨g, 5, none⟩ d5).ownsRow base e size v n xs :=
  own_putx (own_putx (own_putx (own_putx (own_putx (own_putx h hx hne 0 d0) (hx.put 0 d0) hne 1 d1) ((hx.put 0 d0).put 1 d1) hne 2 d2) (((hx.put 0 d0).put 1 d1).put 2 d2) hne 3 d3) ((((hx.put 0 d0).put 1 d1).put 2 d2).put 3 d3) hne 4 d4) (((((hx.put 0 d0).put 1 d1).put 2 d2).put 3 d3).put 4 d4) hne 5 d5
theorem read_back {name : Z.Str} {T K : Int} {fs : List Z.Str} {o : Z.Str} {r : Z.Rec} (h : Z.readData name T K fs o = some r) :
    Z.recValid r = true ∧ Z.valid o = true ∧ r.name = name ∧ r.ttl = T ∧ r.kind = K ∧ Z.writeLine r o r.name = some (Z.spaced (Z.lineFields r o)) ∧ Z.fields (Z.spaced (Z.lineFields r o)) = some (Z.lineFields r o) ∧ Z.readData name T K (Z.dataFields r o) o = some r := by
  obtain ⟨h1, h2, h3, h4, h5, h6⟩ := Z.readData_some h
  have hvn := (Z.recValid_iff.1 h1).1
  refine ⟨h1, h5, h2, h3, h4, ?_, Z.fields_spaced (fun f hf => (Z.lineFields_spec h1 h5 f hf).1), ?_⟩
  · unfold Z.writeLine
    rw [if_pos (by simp [h1, h5, hvn])]
    simp [Z.lineText]
  · have h9 := Z.readData_fields h1 h5
    rwa [h2, h3, h4] at h9
theorem df_len {r : Z.Rec} {o : Z.Str} (h : Z.recValid r = true) (ho : Z.valid o = true) : 1 ≤ (Z.dataFields r o).length ∧ (Z.dataFields r o).length ≤ 300 ∧ ∀ f ∈ Z.dataFields r o, f.length ≤ 300 := by
  have h1 := (Z.dataFields_spec h ho).2.1
  have hl := Z.line_len h ho r.name
  have h2 : (Z.lineText r o r.name).length = (Z.spaced (Z.lineFields r o)).length := by simp [Z.lineText]
  have hg : ∀ fs : List Z.Str, fs.length ≤ (Z.spaced fs).length ∧ ∀ f ∈ fs, f.length ≤ (Z.spaced fs).length := by
    intro fs
    induction fs with
    | nil => simp [Z.spaced]
    | cons a l ih =>
      have e : (Z.spaced (a :: l)).length = a.length + 1 + (Z.spaced l).length := by simp [Z.spaced]; omega
      rw [e]
      refine ⟨by have := ih.1; simp; omega, fun f hf => ?_⟩
      rcases List.mem_cons.1 hf with rfl | hf
      · omega
      · have := ih.2 f hf; omega
  have h3 := hg (Z.lineFields r o)
  rw [← h2] at h3
  have h4 : (Z.lineFields r o).length = (Z.dataFields r o).length + 2 := rfl
  refine ⟨List.length_pos_iff.2 h1, by omega, fun f hf => ?_⟩
  have := h3.2 f (List.mem_cons_of_mem _ (List.mem_cons_of_mem _ hf))
  omega

set_option maxRecDepth 100000 in
set_option maxHeartbeats 8000000 in
theorem walk (a0 : Option Addr) (len0 cap0 : Nat) (z0 : List Int) (w : World) (w0 : IsRow .u8 w a0 len0 cap0 z0) (hk : KT w) (ht : PT w) (hm : MX w) :
    Calls Tryz.prog 3 #[.slice a0 len0 cap0] w fun e w' => e = .returned (.bool true) ∧ Below w.heap.size w w' := by
  have hc0 := row_cap w0
  unfold maxLen at hc0
  by_cases hb0 : len0 ≤ 1048576
  · obtain ⟨zs0, rfl, hcode0⟩ := code_of_row w0 hb0
    clear w0
    go_enter Tryz.func3, Tryz.ntmps3
    go_wp2_with fail
    refine (DrawReadData_any _ _ zs0 w hcode0).mono ?_
    rintro e v1 ⟨aN, aT, aK, aA, aL, aC, aG, aX, aZ, FA, fc, fs, o, rfl, Or, la, s1, s2, s3, Rf, fcap, flen, HF, so, bw⟩
    have Hf : v1.heap.size ≤ v1.heap.size := Nat.le_refl _
    have HLB : Hid (∀ l ∈ fs, l.length ≤ 67108863) := hid (fun l hl => by have := HF.out l hl; omega)
    have HLC : Hid (∀ l ∈ fs, l.length ≤ 67108864) := hid (fun l hl => by have := HF.out l hl; omega)
    clear HF
    have Lr := Or.lt
    try simp only [World.alloc, Array.size_push] at Lr
    replace Rf := Rf.alloc Hf (.cells #[.string aN, .int .i64 aT, .int .i64 aK, .slice aA aL aC, .string aG, .string aX] 25)
    replace Hf := Nat.le_trans Hf (show v1.heap.size ≤ (v1.alloc (.cells #[.string aN, .int .i64 aT, .int .i64 aK, .slice aA aL aC, .string aG, .string aX] 25)).heap.size by simp)
    replace Or := Or.alloc (.cells #[.string aN, .int .i64 aT, .int .i64 aK, .slice aA aL aC, .string aG, .string aX] 25)
    replace bw := bw.alloc bw.size (.cells #[.string aN, .int .i64 aT, .int .i64 aK, .slice aA aL aC, .string aG, .string aX] 25)
    have Br : Blk (v1.alloc (.cells #[.string aN, .int .i64 aT, .int .i64 aK, .slice aA aL aC, .string aG, .string aX] 25)) v1.heap.size 25 [.string aN, .int .i64 aT, .int .i64 aK, .slice aA aL aC, .string aG, .string aX] := Blk.new v1 25 [.string aN, .int .i64 aT, .int .i64 aK, .slice aA aL aC, .string aG, .string aX]
    obtain ⟨cr0, cr1, cr2, cr3, cr4, cr5⟩ := Br.cells6
    obtain ⟨res, hres⟩ : ∃ res, Z.readData (lst aN) aT aK fs (lst o) = res := ⟨_, rfl⟩
    obtain ⟨ok, hok⟩ : ∃ ok, res.isSome = ok := ⟨_, rfl⟩
    have HRES := hid hres
    have HOK := hid hok
    clear hres hok
    go_wp2_with fail
    refine (iReadData_eq aN aT aK aA aL aC aG aX fs _ FA fc o _ (hm.below bw) Rf Hf fcap (by omega) (by omega) (by omega) HLB res HRES ok HOK).mono ?_
    rintro e v2 ⟨xN, xT, xK, xA, xL, xC, xG, xX, xZ, rfl, Ox, hqx, hlx, hb2⟩
    clear cr0 cr1 cr2 cr3 cr4 cr5
    have hs1 := hb2.size
    try simp only [World.alloc, Array.size_push] at hs1
    replace Br := Br.next hb2
    replace Or := own_next Or hb2
    replace Rf := Rf.below hb2 Hf
    replace Hf := Nat.le_trans Hf hb2.size
    replace bw := bw.trans (hb2.mono bw.size)
    clear hb2
    have Lx := Ox.lt
    try simp only [World.alloc, Array.size_push] at Lx
    replace Rf := Rf.alloc Hf (.cells #[.string xN, .int .i64 xT, .int .i64 xK, .slice xA xL xC, .string xG, .string xX] 25)
    replace Hf := Nat.le_trans Hf (show v2.heap.size ≤ (v2.alloc (.cells #[.string xN, .int .i64 xT, .int .i64 xK, .slice xA xL xC, .string xG, .string xX] 25)).heap.size by simp)
    replace Br := Br.alloc (.cells #[.string xN, .int .i64 xT, .int .i64 xK, .slice xA xL xC, .string xG, .string xX] 25)
    replace Or := Or.alloc (.cells #[.string xN, .int .i64 xT, .int .i64 xK, .slice xA xL xC, .string xG, .string xX] 25)
    replace Ox := Ox.alloc (.cells #[.string xN, .int .i64 xT, .int .i64 xK, .slice xA xL xC, .string xG, .string xX] 25)
    replace bw := bw.alloc bw.size (.cells #[.string xN, .int .i64 xT, .int .i64 xK, .slice xA xL xC, .string xG, .string xX] 25)
    have Bx : Blk (v2.alloc (.cells #[.string xN, .int .i64 xT, .int .i64 xK, .slice xA xL xC, .string xG, .string xX] 25)) v2.heap.size 25 [.string xN, .int .i64 xT, .int .i64 xK, .slice xA xL xC, .string xG, .string xX] := Blk.new v2 25 [.string xN, .int .i64 xT, .int .i64 xK, .slice xA xL xC, .string xG, .string xX]
    obtain ⟨cr0, cr1, cr2, cr3, cr4, cr5⟩ := Br.cells6
    obtain ⟨cx0, cx1, cx2, cx3, cx4, cx5⟩ := Bx.cells6
    go_wp2_with fail
    refine (ReadData_eq aN aT aK aA aL aC aG aX fs _ FA fc o _ Rf Hf fcap (by omega) (by omega) (by omega) HLC res HRES ok HOK).mono ?_
    rintro e v3 ⟨wN, wT, wK, wA, wL, wC, wG, wX, wZ, rfl, Ow, hqw, hlw, hb3⟩
    clear cr0 cr1 cr2 cr3 cr4 cr5 cx0 cx1 cx2 cx3 cx4 cx5
    have hs2 := hb3.size
    try simp only [World.alloc, Array.size_push] at hs2
    replace Br := Br.next hb3
    replace Bx := Bx.next hb3
    replace Or := own_next Or hb3
    replace Ox := own_next Ox hb3
    replace Rf := Rf.below hb3 Hf
    replace Hf := Nat.le_trans Hf hb3.size
    replace bw := bw.trans (hb3.mono bw.size)
    clear hb3
    have Lw := Ow.lt
    try simp only [World.alloc, Array.size_push] at Lw
    have hl7 := reads_len (Reads.of_own Ox)
    have hk7 := reads_len (Reads.of_own Ow)
    have he7 := hqx.symm.trans hqw
    simp only [Z.Rec.mk.injEq] at he7
    obtain ⟨e1, rfl, rfl, rfl, e5, e6⟩ := he7
    obtain rfl := lst_inj e1
    obtain rfl := lst_inj e5
    obtain rfl := lst_inj e6
    obtain rfl : xL = wL := hl7.symm.trans hk7
    clear e1 e5 e6 hl7 hk7 hqw
    replace Rf := Rf.alloc Hf (.cells #[.string xN, .int .i64 xT, .int .i64 xK, .slice wA xL wC, .string xG, .string xX] 25)
    replace Hf := Nat.le_trans Hf (show v3.heap.size ≤ (v3.alloc (.cells #[.string xN, .int .i64 xT, .int .i64 xK, .slice wA xL wC, .string xG, .string xX] 25)).heap.size by simp)
    replace Br := Br.alloc (.cells #[.string xN, .int .i64 xT, .int .i64 xK, .slice wA xL wC, .string xG, .string xX] 25)
    replace Bx := Bx.alloc (.cells #[.string xN, .int .i64 xT, .int .i64 xK, .slice wA xL wC, .string xG, .string xX] 25)
    replace Or := Or.alloc (.cells #[.string xN, .int .i64 xT, .int .i64 xK, .slice wA xL wC, .string xG, .string xX] 25)
    replace Ox := Ox.alloc (.cells #[.string xN, .int .i64 xT, .int .i64 xK, .slice wA xL wC, .string xG, .string xX] 25)
    replace Ow := Ow.alloc (.cells #[.string xN, .int .i64 xT, .int .i64 xK, .slice wA xL wC, .string xG, .string xX] 25)
    replace bw := bw.alloc bw.size (.cells #[.string xN, .int .i64 xT, .int .i64 xK, .slice wA xL wC, .string xG, .string xX] 25)
    have Bw : Blk (v3.alloc (.cells #[.string xN, .int .i64 xT, .int .i64 xK, .slice wA xL wC, .string xG, .string xX] 25)) v3.heap.size 25 [.string xN, .int .i64 xT, .int .i64 xK, .slice wA xL wC, .string xG, .string xX] := Blk.new v3 25 [.string xN, .int .i64 xT, .int .i64 xK, .slice wA xL wC, .string xG, .string xX]
    obtain ⟨cr0, cr1, cr2, cr3, cr4, cr5⟩ := Br.cells6
    obtain ⟨cx0, cx1, cx2, cx3, cx4, cx5⟩ := Bx.cells6
    obtain ⟨cw0, cw1, cw2, cw3, cw4, cw5⟩ := Bw.cells6
    clear Rf Hf
    go_wp2_with fail
    refine (recSame_true xN xT xK xA xL xC xG xX xZ _ wA wC _ _ (Reads.of_own Ox) (Nat.le_refl _) (by omega) (Reads.of_own Ow) (Nat.le_refl _)).mono ?_
    rintro e v4 ⟨rfl, hb4⟩
    clear cr0 cr1 cr2 cr3 cr4 cr5 cx0 cx1 cx2 cx3 cx4 cx5 cw0 cw1 cw2 cw3 cw4 cw5
    have hs3 := hb4.size
    try simp only [World.alloc, Array.size_push] at hs3
    replace Br := Br.next hb4
    replace Bx := Bx.next hb4
    replace Bw := Bw.next hb4
    replace Or := own_next Or hb4
    replace Ox := own_next Ox hb4
    replace Ow := own_next Ow hb4
    replace bw := bw.trans (hb4.mono bw.size)
    clear hb4
    obtain ⟨cr0, cr1, cr2, cr3, cr4, cr5⟩ := Br.cells6
    obtain ⟨cx0, cx1, cx2, cx3, cx4, cx5⟩ := Bx.cells6
    obtain ⟨cw0, cw1, cw2, cw3, cw4, cw5⟩ := Bw.cells6
    cases ok with
    | false =>
      go_wp2_with fail
      refine (recSame_true xN xT xK xA xL xC xG xX xZ _ wA wC _ _ (Reads.of_own Ox) (Nat.le_refl _) (by omega) (Reads.of_own Ow) (Nat.le_refl _)).mono ?_
      rintro e v5 ⟨rfl, hb5⟩
      clear cr0 cr1 cr2 cr3 cr4 cr5 cx0 cx1 cx2 cx3 cx4 cx5 cw0 cw1 cw2 cw3 cw4 cw5
      have hs4 := hb5.size
      try simp only [World.alloc, Array.size_push] at hs4
      replace Br := Br.next hb5
      replace Bx := Bx.next hb5
      replace Bw := Bw.next hb5
      replace Or := own_next Or hb5
      replace Ox := own_next Ox hb5
      replace Ow := own_next Ow hb5
      replace bw := bw.trans (hb5.mono bw.size)
      clear hb5
      go_wp2
      go_ret
      exact ⟨ret_bool (by simp), bw⟩
    | true =>
      have hsome : Z.readData (lst aN) aT aK fs (lst o) = some (⟨lst xN, xT, xK, xZ, lst xG, lst xX⟩ : Z.Rec) := by
        rw [HRES.out]
        cases hr9 : res with
        | none => have := HOK.out; rw [hr9] at this; cases this
        | some r9 => rw [hr9] at hqx; exact congrArg some hqx
      clear hqx HRES HOK HLC Ow Bw
      obtain ⟨hval, hvo, e1, e2, e3, hwl, hfl, hrd⟩ := read_back hsome
      dsimp only at e1 e2 e3
      obtain rfl := lst_inj e1
      subst e2 e3
      clear e1 hsome
      have HRV := hid hval
      obtain ⟨z1, z2, z3, z4⟩ := Z.valid_sizes hval
      simp only [lst_length] at z1 z3 z4
      obtain ⟨u1, u2, hfs⟩ := df_len hval hvo
      obtain ⟨df, hdf⟩ : ∃ df, Z.dataFields (⟨lst xN, xT, xK, xZ, lst xG, lst xX⟩ : Z.Rec) (lst o) = df := ⟨_, rfl⟩
      have hlf : Z.lineFields (⟨lst xN, xT, xK, xZ, lst xG, lst xX⟩ : Z.Rec) (lst o) = Lib.itoa xT :: Z.kindName xK :: df := by rw [← hdf]; rfl
      rw [hdf] at hrd u1 u2 hfs
      rw [hlf] at hwl hfl
      obtain ⟨D, hD⟩ : ∃ D, bs (Z.spaced (Lib.itoa xT :: Z.kindName xK :: df)) = D := ⟨_, rfl⟩
      have hDs : D.size ≤ 300 := by
        have h9 := Z.line_len hval hvo (lst xN)
        have h8 : Z.lineText (⟨lst xN, xT, xK, xZ, lst xG, lst xX⟩ : Z.Rec) (lst o) (lst xN) = Z.spaced (Lib.itoa xT :: Z.kindName xK :: df) := by simp [Z.lineText, hlf]
        rw [h8] at h9
        rw [← hD, ← lst_length, lst_bs]
        exact h9
      have HD := hid (show bs ((Z.writeLine (⟨lst xN, xT, xK, xZ, lst xG, lst xX⟩ : Z.Rec) (lst o) (lst xN)).getD []) = D by rw [hwl]; exact hD)
      have HDK := hid (show (Z.writeLine (⟨lst xN, xT, xK, xZ, lst xG, lst xX⟩ : Z.Rec) (lst o) (lst xN)).isSome = true by rw [hwl]; rfl)
      have HF1 := hid (show (Z.fields (lst D)).getD [] = Lib.itoa xT :: Z.kindName xK :: df by rw [← hD, lst_bs, hfl]; rfl)
      have HF2 := hid (show (Z.fields (lst D)).isSome = true by rw [← hD, lst_bs, hfl]; rfl)
      have HAG := hid hrd
      have HDF : Hid (∀ l ∈ df, l.length ≤ 67108863) := hid (fun l hl => by have := hfs l hl; omega)
      clear hwl hfl hrd hlf hdf hfs hval hD
      go_wp2_with fail
      refine (iWriteLine_eq xN xT xK xA xL xC xG xX xZ _ o xN _ (Reads.of_own Ox) (Nat.le_refl _) (by omega) (by omega) (by omega) (by omega) (by omega) (by omega) (hk.below bw) (ht.below bw) D true HD HDK).mono ?_
      rintro e v6 ⟨rfl, hb6⟩
      clear cr0 cr1 cr2 cr3 cr4 cr5 cx0 cx1 cx2 cx3 cx4 cx5 cw0 cw1 cw2 cw3 cw4 cw5
      have hs4 := hb6.size
      try simp only [World.alloc, Array.size_push] at hs4
      replace Br := Br.next hb6
      replace Bx := Bx.next hb6
      replace Or := own_next Or hb6
      replace Ox := own_next Ox hb6
      replace bw := bw.trans (hb6.mono bw.size)
      clear hb6
      obtain ⟨cr0, cr1, cr2, cr3, cr4, cr5⟩ := Br.cells6
      obtain ⟨cx0, cx1, cx2, cx3, cx4, cx5⟩ := Bx.cells6
      go_wp2_with fail
      refine (iFields_v D (by omega) _ true HF1 HF2 _ (hm.below bw)).mono ?_
      rintro e v7 ⟨LA, Lq, rfl, Ol, hb7⟩
      clear cr0 cr1 cr2 cr3 cr4 cr5 cx0 cx1 cx2 cx3 cx4 cx5
      have hs5 := hb7.size
      try simp only [World.alloc, Array.size_push] at hs5
      replace Br := Br.next hb7
      replace Bx := Bx.next hb7
      replace Or := own_next Or hb7
      replace Ox := own_next Ox hb7
      replace bw := bw.trans (hb7.mono bw.size)
      clear hb7
      have Ll := Ol.lt
      try simp only [World.alloc, Array.size_push] at Ll
      obtain ⟨g, lcap, hLV, _, _⟩ := Ol.form (show 1 ≤ (Lib.itoa xT :: Z.kindName xK :: df).length by simp)
      simp only [Value.slice.injEq] at hLV
      obtain ⟨rfl, _, rfl⟩ := hLV
      have hcl := (own_cap Ol).1
      have rl := (Reads.of_own Ol).cut (k := 2) hcl
      have hll : (Lib.itoa xT :: Z.kindName xK :: df).length = df.length + 2 := rfl
      rw [hll] at rl hcl ⊢
      rw [if_neg (by omega), List.map_cons, List.map_cons, List.drop_succ_cons, List.drop_succ_cons, List.drop_zero] at rl
      have hge : (Option.map (fun x => x.add 2) (some (⟨g, 0, none⟩ : Addr))) = some ⟨g, 2, none⟩ := by simp [Addr.add]
      rw [hge, show df.length + 2 - 2 = df.length by omega] at rl
      have y1 : (2 : Int) ≤ ((df.length + 2 : Nat) : Int) := by omega
      have y2 : ((df.length + 2 : Nat) : Int) ≤ (Lq : Int) := by omega
      have y3 : ¬ Lq = 2 := by omega
      clear hge hll Ol
      go_upto_region 10 with fail
      obtain ⟨cr0, cr1, cr2, cr3, cr4, cr5⟩ := Br.cells6
      obtain ⟨cx0, cx1, cx2, cx3, cx4, cx5⟩ := Bx.cells6
      go_cut [14, 15] from 73 (fun v14 v15 wc => ∃ (gy : Nat) (yA : Option Addr) (yC : Nat), v14 = .pointer (some ⟨gy, 0, none⟩) ∧ v15 = .bool true ∧ Blk wc v1.heap.size 25 [.string xN, .int .i64 xT, .int .i64 xK, .slice aA aL aC, .string aG, .string aX] ∧ Blk wc v2.heap.size 25 [.string xN, .int .i64 xT, .int .i64 xK, .slice xA xL xC, .string xG, .string xX] ∧ Reads wc wc.heap.size xA xL (xZ.map iv) ∧ Blk wc gy 25 [.string xN, .int .i64 xT, .int .i64 xK, .slice yA xL yC, .string xG, .string xX] ∧ Reads wc wc.heap.size yA xL (xZ.map iv) ∧ Below w.heap.size w wc)
      case first =>
        obtain ⟨ZW, hZ⟩ : ∃ ZW, v7.alloc (.cells #[.string ⟨#[]⟩, .int .i64 0, .int .i64 0, .slice none 0 0, .string ⟨#[]⟩, .string ⟨#[]⟩] 25) = ZW := ⟨_, rfl⟩
        have BrD := Br.drew
        have BxD := Bx.drew
        have OxD : (v7.drew).ownsRow _ _ _ _ _ _ := Ox
        have bwD := below_drewN bw 1
        have rlD := rl.drew
        have leD := Nat.le_refl v7.drew.heap.size
        have hmD := hm.below bwD
        have BrZ := (Br.alloc (.cells #[.string ⟨#[]⟩, .int .i64 0, .int .i64 0, .slice none 0 0, .string ⟨#[]⟩, .string ⟨#[]⟩] 25)).drew
        have BxZ := (Bx.alloc (.cells #[.string ⟨#[]⟩, .int .i64 0, .int .i64 0, .slice none 0 0, .string ⟨#[]⟩, .string ⟨#[]⟩] 25)).drew
        have BzZ := (Blk.new v7 25 [.string ⟨#[]⟩, .int .i64 0, .int .i64 0, .slice none 0 0, .string ⟨#[]⟩, .string ⟨#[]⟩]).drew
        have OxZ : ((v7.alloc (.cells #[.string ⟨#[]⟩, .int .i64 0, .int .i64 0, .slice none 0 0, .string ⟨#[]⟩, .string ⟨#[]⟩] 25)).drew).ownsRow _ _ _ _ _ _ := Ox.alloc (.cells #[.string ⟨#[]⟩, .int .i64 0, .int .i64 0, .slice none 0 0, .string ⟨#[]⟩, .string ⟨#[]⟩] 25)
        have bwZ := below_drewN (bw.alloc bw.size (.cells #[.string ⟨#[]⟩, .int .i64 0, .int .i64 0, .slice none 0 0, .string ⟨#[]⟩, .string ⟨#[]⟩] 25)) 1
        have rlZ := (rl.alloc (Nat.le_refl _) (.cells #[.string ⟨#[]⟩, .int .i64 0, .int .i64 0, .slice none 0 0, .string ⟨#[]⟩, .string ⟨#[]⟩] 25)).drew
        have leZ : v7.heap.size ≤ (v7.alloc (.cells #[.string ⟨#[]⟩, .int .i64 0, .int .i64 0, .slice none 0 0, .string ⟨#[]⟩, .string ⟨#[]⟩] 25)).drew.heap.size := by show _ ≤ (v7.alloc (.cells #[.string ⟨#[]⟩, .int .i64 0, .int .i64 0, .slice none 0 0, .string ⟨#[]⟩, .string ⟨#[]⟩] 25)).heap.size; simp
        have zbw : w.heap.size ≤ v7.heap.size := bw.size
        have zbr : v1.heap.size ≠ v7.heap.size := Nat.ne_of_lt Br.lt
        have zbx : v2.heap.size ≠ v7.heap.size := Nat.ne_of_lt Bx.lt
        obtain ⟨ca0, ca1, ca2, ca3, ca4, ca5⟩ := BrZ.cells6
        rw [show (.cells [.string ⟨#[]⟩, .int .i64 0, .int .i64 0, .slice none 0 0, .string ⟨#[]⟩, .string ⟨#[]⟩].toArray 25 : Obj) = .cells #[.string ⟨#[]⟩, .int .i64 0, .int .i64 0, .slice none 0 0, .string ⟨#[]⟩, .string ⟨#[]⟩] 25 from rfl] at BzZ
        rw [hZ] at BrZ BxZ BzZ OxZ bwZ rlZ leZ
        have hmZ := hm.below bwZ
        have HZ := hid hZ
        clear hZ
        have z5 : df.length ≤ Lq - 2 := by omega
        have z6 : df.length ≤ 67108864 := by omega
        have z7 : o.size ≤ 67108863 := by omega
        have z8 : xN.size ≤ 67108863 := by omega
        go_region_with (first
          | (go_at_call 15; rw [HZ.out]; refine (iReadData_n xN xT xK aA aL aC aG aX df _ _ _ _ o _ hmZ rlZ leZ z5 z6 z7 z8 HDF _ HAG true (hid rfl)).mono ?_; rintro e v8 ⟨yN, yT, yK, yA, yL, yC, yG, yX, yZ, rfl, Oy, hqy, hly, hb8⟩; have Br8 := BrZ.next hb8; have Bx8 := BxZ.next hb8; have Ox8 := own_next OxZ hb8; have bw8 := bwZ.trans (hb8.mono bwZ.size); have Bz8 := BzZ.next hb8; have ar2 := True.intro; obtain ⟨n0, n1, n2, n3, n4, n5⟩ := Bz8.cells6; obtain ⟨k0, k1, k2, k3, k4, k5⟩ := Bz8.free6)
          | (go_at_call 15; refine (iReadData_n xN xT xK aA aL aC aG aX df _ _ _ _ o _ hmD rlD leD z5 z6 z7 z8 HDF _ HAG true (hid rfl)).mono ?_; rintro e v8 ⟨yN, yT, yK, yA, yL, yC, yG, yX, yZ, rfl, Oy, hqy, hly, hb8⟩; have Br8 := BrD.next hb8; have Bx8 := BxD.next hb8; have Ox8 := own_next OxD hb8; have bw8 := bwD.trans (hb8.mono bwD.size); have ar1 := True.intro))
        all_goals have hl9 := reads_len (Reads.of_own Ox8)
        all_goals have hk9 := reads_len (Reads.of_own Oy)
        all_goals simp only [Option.getD_some, Z.Rec.mk.injEq] at hqy
        all_goals obtain ⟨e1, e2, e3, e4, e5, e6⟩ := hqy
        all_goals (have e1 := lst_inj e1)
        all_goals (have e5 := lst_inj e5)
        all_goals (have e6 := lst_inj e6)
        all_goals subst e1 e2 e3 e4 e5 e6
        all_goals (have e7 : xL = yL := hl9.symm.trans hk9)
        all_goals subst e7
        all_goals clear hl9 hk9 Br Bx Ox bw cr0 cr1 cr2 cr3 cr4 cr5 cx0 cx1 cx2 cx3 cx4 cx5 ca0 ca1 ca2 ca3 ca4 ca5
        all_goals first
          | (have ar3 := ar1
             have Br := Br8.alloc (.cells #[.string xN, .int .i64 xT, .int .i64 xK, .slice yA xL yC, .string xG, .string xX] 25)
             have Bx := Bx8.alloc (.cells #[.string xN, .int .i64 xT, .int .i64 xK, .slice yA xL yC, .string xG, .string xX] 25)
             have Ox := Ox8.alloc (.cells #[.string xN, .int .i64 xT, .int .i64 xK, .slice yA xL yC, .string xG, .string xX] 25)
             have Oy := Oy.alloc (.cells #[.string xN, .int .i64 xT, .int .i64 xK, .slice yA xL yC, .string xG, .string xX] 25)
             have bw := bw8.alloc bw8.size (.cells #[.string xN, .int .i64 xT, .int .i64 xK, .slice yA xL yC, .string xG, .string xX] 25)
             have By := Blk.new v8 25 [.string xN, .int .i64 xT, .int .i64 xK, .slice yA xL yC, .string xG, .string xX]
             clear Br8 Bx8 Ox8 bw8)
          | (have ar3 := ar2
             have Br := six_apart Br8 zbr (.string xN) (.int .i64 xT) (.int .i64 xK) (.slice yA xL yC) (.string xG) (.string xX)
             have Bx := six_apart Bx8 zbx (.string xN) (.int .i64 xT) (.int .i64 xK) (.slice yA xL yC) (.string xG) (.string xX)
             have Ox := own_six Ox8 Bz8 (by decide) (.string xN) (.int .i64 xT) (.int .i64 xK) (.slice yA xL yC) (.string xG) (.string xX)
             have Oy := six_own Oy BzZ.lt (.string xN) (.int .i64 xT) (.int .i64 xK) (.slice yA xL yC) (.string xG) (.string xX)
             have bw := six_below bw8 zbw (.string xN) (.int .i64 xT) (.int .i64 xK) (.slice yA xL yC) (.string xG) (.string xX)
             have By := six_set Bz8 (.string xN) (.int .i64 xT) (.int .i64 xK) (.slice yA xL yC) (.string xG) (.string xX)
             clear Br8 Bx8 Ox8 bw8 Bz8 n0 n1 n2 n3 n4 n5 k0 k1 k2 k3 k4 k5)
        all_goals clear hb8 HZ BrD BxD OxD bwD rlD leD hmD BrZ BxZ BzZ OxZ bwZ rlZ leZ hmZ ar3
        all_goals try clear ar1
        all_goals try clear ar2
        all_goals go_wp2
        all_goals go_meet
        all_goals exact ⟨_, yA, yC, rfl, rfl, Br, Bx, Reads.of_own Ox, By, Reads.of_own Oy, bw⟩
      case rest =>
      obtain ⟨gy, yA, yC, rfl, rfl, Br, Bx, Rx, By, Ry, bw⟩ := hcut
      rename World => u1
      obtain ⟨cr0, cr1, cr2, cr3, cr4, cr5⟩ := Br.cells6
      obtain ⟨cx0, cx1, cx2, cx3, cx4, cx5⟩ := Bx.cells6
      obtain ⟨cy0, cy1, cy2, cy3, cy4, cy5⟩ := By.cells6
      go_wp2_with fail
      refine (iRecordValid_v xN xT xK xA xL xC xG xX xZ _ _ Rx (Nat.le_refl _) (by omega) (by omega) (by omega) (by omega) true HRV).mono ?_
      rintro e u2 ⟨rfl, hb9⟩
      replace Br := Br.next hb9
      replace Bx := Bx.next hb9
      replace By := By.next hb9
      replace Rx := Rx.below hb9 (Nat.le_refl _)
      replace Ry := Ry.below hb9 (Nat.le_refl _)
      replace bw := bw.trans (hb9.mono bw.size)
      have hs9 := hb9.size
      clear hb9 cr0 cr1 cr2 cr3 cr4 cr5 cx0 cx1 cx2 cx3 cx4 cx5 cy0 cy1 cy2 cy3 cy4 cy5
      obtain ⟨cr0, cr1, cr2, cr3, cr4, cr5⟩ := Br.cells6
      obtain ⟨cx0, cx1, cx2, cx3, cx4, cx5⟩ := Bx.cells6
      obtain ⟨cy0, cy1, cy2, cy3, cy4, cy5⟩ := By.cells6
      go_wp2_with fail
      refine (recSame_true xN xT xK yA xL yC xG xX xZ _ xA xC _ _ Ry hs9 (by omega) Rx hs9).mono ?_
      rintro e u3 ⟨rfl, hb9⟩
      replace Br := Br.next hb9
      replace Bx := Bx.next hb9
      replace bw := bw.trans (hb9.mono bw.size)
      clear hb9 cr0 cr1 cr2 cr3 cr4 cr5 cx0 cx1 cx2 cx3 cx4 cx5 cy0 cy1 cy2 cy3 cy4 cy5
      obtain ⟨cr0, cr1, cr2, cr3, cr4, cr5⟩ := Br.cells6
      obtain ⟨cx0, cx1, cx2, cx3, cx4, cx5⟩ := Bx.cells6
      have q9 : (xN.toList == xN.toList) = true := by simp
      go_wp2
      all_goals go_ret
      all_goals exact ⟨ret_bool (by simp), bw⟩
  · go_enter Tryz.func3, Tryz.ntmps3
    go_wp2_with fail
    go_ret
    exact ⟨rfl, Below.refl _ _⟩

end Go.Proofs.YtpgeeeamcncpkaaGreatDoor.fnReadData
