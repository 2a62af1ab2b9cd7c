/- What the laws lean on, in a few texts (by shake.py): number 16 of 16. -/
import Derived.Test.YtikapeaodobkjaaGreatZk1
import Derived.Test.YtikapeaodobkjaaGreatZk2
import Derived.Test.YtikapeaodobkjaaGreatZk4
import Derived.Test.YtikapeaodobkjaaGreatZk6
import Derived.Test.YtikapeaodobkjaaGreatZk5
import Derived.Test.YtikapeaodobkjaaGreatZk7
import Derived.Test.YtikapeaodobkjaaGreatZk8
import Derived.Test.YtikapeaodobkjaaGreatZk12
import Derived.Test.YtikapeaodobkjaaGreatZk10
import Derived.Test.YtikapeaodobkjaaGreatZk9
import Derived.Test.YtikapeaodobkjaaGreatZk11
import Derived.Test.YtikapeaodobkjaaGreatZk13
import Derived.Test.YtikapeaodobkjaaGreatZk14
import Derived.Test.YtikapeaodobkjaaGreatZk15
import Derived.Test.YtikapeaodobkjaaGreatZk3
import Derived.Shelf.SlSortCmp.QuietGrown
import Derived.Laws.OwnMore
import Derived.Laws.AppendOwnNone
import Derived.Deep.DeepCutAuto
import Derived.Deep.CutBlock
import Derived.Maps.AppendAt
import Derived.Maps.RangeWalk

set_option maxHeartbeats 16000000
set_option maxRecDepth 1000000
set_option linter.unusedVariables false
namespace Go.Proofs.YtikapeaodobkjaaGreat
open Go.RowKit Go.Lib Go.Maps Go.Deep

def sQL (L:List Od) (i:Nat):Int:=sF (fun j=>(L[j]!).qty) i
def sFL (F:List (Od × Int)) (i:Nat):Int:=sF (fun j=>(F[j]!).2) i
theorem sQL_rng {L:List Od} (h:∀ x ∈ L,goodO x = true) {k:Nat} (hk:k≤L.length):0≤sQL L k∧sQL L k≤1099511627776 * (k:Int) :=
 sF_small (n:=L.length) (fun j hj=>by have:=good_is (h _ (bang_mem hj));omega) k hk
theorem sFL_rng {R:Rl} {F:List (Od × Int)} (h:∀ y ∈ F,FOk R y) {k:Nat} (hk:k≤F.length):0≤sFL F k∧sFL F k≤1099511627776 * (k:Int) :=
 sF_small (n:=F.length) (fun j hj=>by
  obtain ⟨h1,h2,_,_,_,h6⟩:=h _ (bangF_mem hj)
  have:=good_is h6;omega) k hk
theorem flF_get:∀ (F:List (Od × Int)) (i r:Nat),i < F.length → r < 7 → (flF F)[i * 7 + r]? = (encF F[i]!)[r]?
 | [],i,r,h,_=>absurd h (Nat.not_lt_zero _)
 | y :: F,0,r,_,hr=>by
  show (encF y ++ flF F)[0 * 7 + r]? = _
  rw [Nat.zero_mul,Nat.zero_add,List.getElem?_append_left (by show r < 7;exact hr)];rfl
 | y :: F,i + 1,r,h,hr=>by
  have ih:=flF_get F i r (by simpa using h) hr
  show (encF y ++ flF F)[(i + 1) * 7 + r]? = _
  rw [List.getElem?_append_right (by show 7≤_;omega),show (i + 1) * 7 + r - (encF y).length = i * 7 + r by show (i + 1) * 7 + r - 7 = _;omega,ih]
  rw [show (y :: F)[i + 1]! = F[i]! by simp]
theorem sFL_zero (F:List (Od × Int)):sFL F 0 = 0:=rfl
theorem fill_at {w:World} {base c:Nat} {A:Option Addr} {F:List (Od × Int)} {n:Nat} (hn:F.length = n) (h:w.ownsRow base 90 7 (.slice A n c) n (flF F)) {i:Nat} (hi:i < n) :
  ∃ g,A = some ⟨g,0,none⟩∧g < w.heap.size∧((F[i]!).1).at w g (i * 7)∧w.cell? ⟨g,i * 7 + 6,none⟩ = some (.int .i64 (F[i]!).2):=by
 obtain ⟨g,cap,e,hg,hc⟩:=own_row' h (by omega)
 injection e with e1 _ _
 have cc:∀ r u,r < 7 → (encF F[i]!)[r]? = some u → w.cell? ⟨g,i * 7 + r,none⟩ = some u:=fun r u hr hu=>hc _ u (by rw [flF_get F i r (by omega) hr];exact hu)
 exact ⟨g,e1,hg,⟨cc 0 _ (by omega) rfl,cc 1 _ (by omega) rfl,cc 2 _ (by omega) rfl,cc 3 _ (by omega) rfl,cc 4 _ (by omega) rfl,cc 5 _ (by omega) rfl⟩,cc 6 _ (by omega) rfl⟩
theorem ord_at {w:World} {base c:Nat} {A:Option Addr} {T:TypeId} {L:List Od} {n:Nat} (hn:L.length = n) (h:w.ownsRow base T 6 (.slice A n c) n (ol L)) {i:Nat} (hi:i < n) :
  ∃ g,A = some ⟨g,0,none⟩∧g < w.heap.size∧(L[i]!).at w g (i * 6):=by
 obtain ⟨g,cap,e,hg,hc⟩:=own_row' h (by omega)
 injection e with e1 _ _
 have cc:∀ r u,r < 6 → (encO L[i]!)[r]? = some u → w.cell? ⟨g,i * 6 + r,none⟩ = some u:=fun r u hr hu=>hc _ u (by rw [ol_get L i r (by omega) hr];exact hu)
 exact ⟨g,e1,hg,⟨cc 0 _ (by omega) rfl,cc 1 _ (by omega) rfl,cc 2 _ (by omega) rfl,cc 3 _ (by omega) rfl,cc 4 _ (by omega) rfl,cc 5 _ (by omega) rfl⟩⟩
structure KpF (R:Rl) (q cash:Int) (L:List Od) (M:Mt) (st:Bool):Prop where
 left:M.left + sFL M.F M.F.length = q
 sum:sQL L L.length = sQL M.L M.L.length + (sQL M.D M.D.length + sFL M.F M.F.length)
 l0:0≤M.left
 dr:∀ i,i < M.D.length → ((M.D[i]!).acc != R.acc) = false∧((M.D[i]!).side == R.side) = false
 fl:∀ i,i < M.F.length → FOk R (M.F[i]!)
 fn:M.F.length≤128
 dn:M.D.length≤64
 dg:∀ x ∈ M.D,goodO x = true
 why:¬ M.left = 0 → st = false → ¬ (R.side = 1∧0≤cash) → ¬ M.left < R.lot → alB R.lot L = true → ∀ x ∈ M.L,¬ x.side = R.side → ¬ R.price = 0∧croN R.side R.price x.price = false
theorem own_acc {p a:Int} {x:Od} (h:isOwn p a x = true):x.acc = a:=by
 unfold isOwn at h
 simp only [Bool.and_eq_true,beq_iff_eq] at h
 exact h.2
theorem kp_f {R:Rl} {q cash:Int} {L:List Od} {M:Mt} {st:Bool} (hf:FitP R q) (hL:L.length≤64) (hg:GM ⟨L,q,cash,[],[]⟩) (hpw:M.L.Pairwise (fun x y=>ltO x y = true)) (h:crF R ⟨L,q,cash,[],[]⟩ = (M,st)):KpF R q cash L M st:=by
 have K:=keeps_p R (fit_pol hf) hf.l0 hf.l1 (by have:=hf.m0;have:=hf.m1;omega) ⟨L,q,cash,[],[]⟩ hg hL hf.q0 hf.q1 rfl rfl
 rw [h] at K
 have e1:sFL M.F M.F.length = sumF M.F:=sF_F _
 have e2:sQL M.L M.L.length = sumQ M.L:=sF_Q _
 have e3:sQL M.D M.D.length = sumQ M.D:=sF_Q _
 have e4:sQL L L.length = sumQ L:=sF_Q _
 have k1:M.left + sumF M.F = q:=K.j.left
 have k2:sumQ M.L + sumQ M.D + sumF M.F = sumQ L:=K.j.sum
 refine ⟨by rw [e1];exact k1,by rw [e1,e2,e3,e4];omega,K.l0,fun i hi=>?_,fun i hi=>K.j.fl _ (bangF_mem hi),?_,?_,fun x hx=>(K.j.dr x hx).2.2,fun h1 h2 h3 h4 h5=>?_⟩
 ·obtain ⟨d1,d2,_⟩:=K.j.dr _ (bang_mem hi)
  have ha:(M.D[i]!).acc = R.acc:=own_acc d1
  have d2':(M.D[i]!).side = 3 - R.side:=d2
  have hs:=hf.side
  refine ⟨by rw [ha];exact bne_self_eq_false _,?_⟩
  rw [d2',beq_eq_false_iff_ne];omega
 ·have:M.F.length≤L.length + 64:=K.j.fn
  omega
 ·have:M.D.length≤L.length:=K.j.dn
  omega
 ·rcases K.why with h | h | h | h | h | h
  ·exact absurd (h2.symm.trans h) (by decide)
  ·exact absurd h h1
  ·exact absurd h h4
  ·exfalso
   unfold payM at h
   simp only [Bool.and_eq_true,beq_iff_eq,decide_eq_true_eq] at h
   exact h3 h
  ·exfalso
   refine h (fun x hx=>?_)
   unfold alB at h5
   rw [List.all_eq_true] at h5
   simpa using h5 x hx
  ·exact none_cros hf.side K.gm.gd hpw h
theorem keeps_go (k:Int) (hk:k = 1 ∨ k = 2) (A:Option Addr) (n c:Nat) (L:List Od) (X:Ruls) (R:Rl) (q cash:Int) (w:World) (H:Ods w A n L) (hz:n≤64) (hB:bookO L = true) (hf:FitP R q) (hc:InR cash) (hX:X.One) :
  Calls Tryz.prog 8 #[.int .i64 k,.slice A n c,.agg #[.int .i64 R.acc,.int .i64 R.side,.int .i64 R.price,.int .i64 q,.int .i64 cash],.agg #[X.ver,X.ticks,.int .i64 R.lot,X.band,X.fees,X.round,.int .i64 R.mode,.int .i64 R.self,X.lay]] w fun e w'=>e = .returned (.bool true)∧Below w.heap.size w w':=by
 have hzI:decide ((64:Int) < (n:Int)) = false:=decide_eq_false (by omega)
 have HLv:=Lib.hid (fun W=>lives18_c W)
 obtain ⟨w2,hw2⟩:∃ w2,(w.alloc (.cells #[.int .i64 R.acc,.int .i64 R.side,.int .i64 R.price,.int .i64 q,.int .i64 cash] 64)).alloc (.cells #[X.ver,X.ticks,.int .i64 R.lot,X.band,X.fees,X.round,.int .i64 R.mode,.int .i64 R.self,X.lay] 68) = w2:=⟨_,rfl⟩
 have b2:Below w.heap.size w w2:=by rw [← hw2];exact ((Below.refl _ _).alloc (Nat.le_refl _) _).alloc (by simp) _
 have c4:Cl 64 w2 w.heap.size #[.int .i64 R.acc,.int .i64 R.side,.int .i64 R.price,.int .i64 q,.int .i64 cash]:=by rw [← hw2];exact hd_prev (by simp) (hd_last rfl)
 have c5:Cl 68 w2 (w.heap.size + 1) #[X.ver,X.ticks,.int .i64 R.lot,X.band,X.fees,X.round,.int .i64 R.mode,.int .i64 R.self,X.lay]:=by rw [← hw2];exact hd_last (by simp)
 have HB2:=Lib.hid b2
 have HC4:=Lib.hid c4
 have HC5:=Lib.hid c5
 have HBd:=Lib.hid (build_c k hk A n c L w2 (H.below b2) hB)
 have HF:=Lib.hid hf
 have HMtc:=Lib.hid (fun b v S W (h:LyB W b v k L S)=>match18_c b X R v k L S q cash W h hf hc hX)
 obtain ⟨⟨M,st⟩,hr⟩:∃ r,crF R ⟨L,q,cash,[],[]⟩ = r:=⟨_,rfl⟩
 rw [hr] at HMtc
 have HKp:=Lib.hid (fun hpw hg=>kp_f (L:=L) (M:=M) (st:=st) hf (by rw [H.1];exact hz) hg hpw hr)
 have HO:=Lib.hid H
 have HLn:=Lib.hid H.1
 have HBk:=Lib.hid (book_facts hB)
 clear b2 c4 c5 H hf hB hk hc hX hr
 go_enter Tryz.func8,Tryz.ntmps8
 go_wp2_with fail
 ((with_reducible refine HBd.out.mono ?_);rintro e w3 ⟨b,v,S,rfl,hN⟩)
 have HMt:=Lib.hid (HMtc.out b v S w3 hN.out.ly)
 unfold MatchEnd at HMt
 obtain ⟨t0,t1,t2,t3,t4⟩:=five_of (Cl.bel HC4.out hN.out.be);obtain ⟨r0,r1,r2,r3,r4,r5,r6,r7,r8⟩:=nine_of (Cl.bel HC5.out hN.out.be)
 have HN:=Lib.hid hN.out
 clear hN HBd HMtc
 go_wp2_with fail
 ((with_reducible refine HMt.out.mono ?_);rintro e w4 ⟨fv,dv,S2,rfl,hM⟩)
 obtain ⟨nF,hnF⟩:∃ n,M.F.length = n:=⟨_,rfl⟩
 obtain ⟨nD,hnD⟩:∃ n,M.D.length = n:=⟨_,rfl⟩
 obtain ⟨nM,hnM⟩:∃ n,M.L.length = n:=⟨_,rfl⟩
 obtain ⟨lf,hlf⟩:∃ n,M.left = n:=⟨_,rfl⟩
 have hfo:=hM.out.fo
 have hdr:=hM.out.dr
 dsimp only at hfo hdr
 rw [hnF] at hfo
 rw [hnD] at hdr
 obtain ⟨FA,fc,rfl⟩:=own_slice' hfo
 obtain ⟨DA,dc,rfl⟩:=own_slice' hdr
 rw [hlf]
 obtain ⟨w5,hw5⟩:∃ w5,(w4.alloc (.cells #[.slice none 0 0,.slice none 0 0,.int .i64 0,.bool false] 71)).setRow w4.heap.size #[.slice FA nF fc,.slice DA nD dc,.int .i64 lf,.bool st] = w5:=⟨_,rfl⟩
 have b5:Below w4.heap.size w4 w5:=by rw [← hw5];exact below_row (b1_of _ _) (Nat.le_refl _)
 have c5:Cl 71 w5 w4.heap.size #[.slice FA nF fc,.slice DA nD dc,.int .i64 lf,.bool st]:=by rw [← hw5];exact setRow_heap _ _ _ _ _ _ (hd_last rfl)
 have b34:Below w2.heap.size w3 w4:=hM.out.fr.below (fun j hj=>HN.out.lo j hj) HN.out.be.size
 have b25:Below w2.heap.size w2 w5:=(HN.out.be.trans b34).trans (b5.mono (Nat.le_trans HN.out.be.size hM.out.fr.size))
 have B5:Hid (Below w.heap.size w w5):=Lib.hid (HB2.out.trans (b25.mono HB2.out.size))
 have HOl:=Lib.hid (HO.out.below B5.out)
 have NR:Hid (∀ W,Below w5.heap.size w5 W → W.cell? ⟨w4.heap.size,0,none⟩ = some (.slice FA nF fc)∧W.cell? ⟨w4.heap.size,1,none⟩ = some (.slice DA nD dc)∧W.cell? ⟨w4.heap.size,2,none⟩ = some (.int .i64 lf)∧W.cell? ⟨w4.heap.size,3,none⟩ = some (.bool st)):=Lib.hid (fun W hW=>five_four (Cl.bel c5 hW))
 have N4:Hid (∀ W,Below w5.heap.size w5 W → W.cell? ⟨w.heap.size,0,none⟩ = some (.int .i64 R.acc)∧W.cell? ⟨w.heap.size,1,none⟩ = some (.int .i64 R.side)∧W.cell? ⟨w.heap.size,2,none⟩ = some (.int .i64 R.price)∧W.cell? ⟨w.heap.size,3,none⟩ = some (.int .i64 q)∧W.cell? ⟨w.heap.size,4,none⟩ = some (.int .i64 cash)):=Lib.hid (fun W hW=>five_of (Cl.bel (Cl.bel HC4.out b25) hW))
 have N5:Hid (∀ W,Below w5.heap.size w5 W → W.cell? ⟨w.heap.size + 1,2,none⟩ = some (.int .i64 R.lot)∧W.cell? ⟨w.heap.size + 1,7,none⟩ = some (.int .i64 R.self)):=Lib.hid (fun W hW=>⟨((Cl.bel (Cl.bel HC5.out b25) hW).c 2).trans rfl,((Cl.bel (Cl.bel HC5.out b25) hW).c 7).trans rfl⟩)
 have HFa:Hid (∀ W,Below w5.heap.size w5 W → ∀ i,i < nF → ∃ g,FA = some ⟨g,0,none⟩∧g < W.heap.size∧((M.F[i]!).1).at W g (i * 7)∧W.cell? ⟨g,i * 7 + 6,none⟩ = some (.int .i64 (M.F[i]!).2)):=Lib.hid (fun W hW i hi=>fill_at hnF (own_fr (own_fr hfo (Fr.of_below b5:Fr (fun _=>False) w4 w5) (fun _ _ h=>h)) (Fr.of_below hW:Fr (fun _=>False) w5 W) (fun _ _ h=>h)) hi)
 have HDa:Hid (∀ W,Below w5.heap.size w5 W → ∀ i,i < nD → ∃ g,DA = some ⟨g,0,none⟩∧g < W.heap.size∧(M.D[i]!).at W g (i * 6)):=Lib.hid (fun W hW i hi=>ord_at hnD (own_fr (own_fr hdr (Fr.of_below b5:Fr (fun _=>False) w4 w5) (fun _ _ h=>h)) (Fr.of_below hW:Fr (fun _=>False) w5 W) (fun _ _ h=>h)) hi)
 have HLy:=Lib.hid (hM.out.ly.below b5)
 have HAl:Hid (∀ W,Below w5.heap.size w5 W → Calls Tryz.prog 15 #[ptA b] W (RowEnd W M.L)):=Lib.hid (fun W hW=>yAll_c b v k M.L S2 W (HLy.out.below hW))
 have HK:=Lib.hid (HKp.out HLy.out.hd.pw ⟨HBk.out.2.2.1,HBk.out.2.1⟩)
 have HS1:Hid (∀ i,i≤n → 0≤sQL L i∧sQL L i≤1099511627776 * (i:Int)∧(i:Int)≤64):=Lib.hid (fun i hi=>⟨(sQL_rng HBk.out.2.1 (by rw [HLn.out];exact hi)).1,(sQL_rng HBk.out.2.1 (by rw [HLn.out];exact hi)).2,by have:=HBk.out.1;rw [HLn.out] at this;omega⟩)
 have HS2:Hid (∀ i,i≤nM → 0≤sQL M.L i∧sQL M.L i≤1099511627776 * (i:Int)∧(i:Int)≤64):=Lib.hid (fun i hi=>⟨(sQL_rng (fun x hx=>(HLy.out.hd.ok x hx).2) (by rw [hnM];exact hi)).1,(sQL_rng (fun x hx=>(HLy.out.hd.ok x hx).2) (by rw [hnM];exact hi)).2,by have:M.L.length≤64:=HLy.out.hd.len;omega⟩)
 have HS3:Hid (∀ i,i≤nD → 0≤sQL M.D i∧sQL M.D i≤1099511627776 * (i:Int)∧(i:Int)≤64):=Lib.hid (fun i hi=>⟨(sQL_rng HK.out.dg (by rw [hnD];exact hi)).1,(sQL_rng HK.out.dg (by rw [hnD];exact hi)).2,by have:=HK.out.dn;omega⟩)
 have HS4:Hid (∀ i,i≤nF → 0≤sFL M.F i∧sFL M.F i≤1099511627776 * (i:Int)∧(i:Int)≤128):=Lib.hid (fun i hi=>⟨(sFL_rng (R:=R) (fun y hy=>by obtain ⟨j,hj,rfl⟩:=List.getElem_of_mem hy;have:=HK.out.fl j hj;rwa [getElem!_pos M.F j hj] at this) (by rw [hnF];exact hi)).1,(sFL_rng (R:=R) (fun y hy=>by obtain ⟨j,hj,rfl⟩:=List.getElem_of_mem hy;have:=HK.out.fl j hj;rwa [getElem!_pos M.F j hj] at this) (by rw [hnF];exact hi)).2,by have:=HK.out.fn;omega⟩)
 have hz2:nM≤64:=by have:M.L.length≤64:=HLy.out.hd.len;omega
 have hz3:nD≤64:=by have:=HK.out.dn;omega
 have hz4:nF≤128:=by have:=HK.out.fn;omega
 have HNn:=Lib.hid (And.intro hnF (And.intro hnD (And.intro hnM hlf)))
 have HOk:=Lib.hid (fun x hx=>(HLy.out.hd.ok x hx).1)
 have HG:=Lib.hid (fun x hx=>(HLy.out.hd.ok x hx).2)
 obtain ⟨e0,e1,e2,e3⟩:=NR.out w5 (Below.refl _ _)
 clear hfo hdr hnF hnD hnM hlf b5 c5 b34 b25 hM HMt HKp HN HC4 HC5 HO HB2
 go_wp2_with ((with_reducible apply storeRe);rfl;rfl;rfl;rfl;exact (show Cl 71 _ w4.heap.size _ from hd_last rfl);rfl;rfl;exact re_one;rw [hw5];skip)
 go_loopg [61,14] n (fun kx si ss wr=>∃ i:Nat,si = .int .i64 (i:Int)∧ss = .int .i64 (sQL L i)∧i≤n∧n - i≤kx∧Hid (Below w5.heap.size w5 wr))
 case atStart=>exact ⟨0,rfl,rfl,by omega,by omega,Lib.hid (Below.refl _ _)⟩
 case round =>
  obtain ⟨i,rfl,rfl,hi,hkx,hB⟩:=hrel
  by_cases hlt:i < n
  ·have hltI:(i:Int) < (n:Int):=by omega
   have hi0:(0:Int)≤(i:Int):=by omega
   obtain ⟨b9,off,rfl,hb,hcx⟩:∃ b off,A = some ⟨b,off,none⟩∧b < wr.heap.size∧∀ i,i < n → (L[i]!).at wr b (off + i * 6):=by
    rcases (HOl.out.below hB.out).2.2.2 with h | h
    ·omega
    ·exact h
   have hx:=hcx i hlt
   obtain ⟨x,ex⟩:∃ x,L[i]! = x:=⟨_,rfl⟩
   rw [ex] at hx
   obtain ⟨s,hs⟩:∃ s,sQL L i = s:=⟨_,rfl⟩
   have hrg:=HS1.out (i + 1) (by omega)
   have e1:sQL L (i + 1) = s + x.qty:=by rw [← hs,← ex];rfl
   rw [e1] at hrg
   have hwr:IntKind.i64.wrap (s + x.qty) = s + x.qty:=by rw [IntKind.wrap_i64];omega
   have HE1:=Lib.hid e1
   have HBx:Hid (Below w5.heap.size w5 (wr.alloc (.cells (OC x) 38))):=Lib.hid (hB.out.alloc hB.out.size _)
   rw [hs]
   obtain ⟨x0,x1,x2,x3,x4,x5⟩:=hx
   clear hcx hb ex hs hrg e1
   go_wp2_with fail
   go_roundg (n - (i + 1))
   case measure=>omega
   case rel=>exact ⟨i + 1,by go_num,by rw [HE1.out],by omega,by omega,HBx⟩
  ·have hltI:¬ (i:Int) < (n:Int):=by omega
   obtain rfl:n = i:=by omega
   obtain ⟨was,hwas⟩:∃ s,sQL L n = s:=⟨_,rfl⟩
   rw [hwas]
   have HW1:=Lib.hid hwas
   have HAl1:=Lib.hid (HAl.out wr hB.out)
   unfold RowEnd at HAl1
   clear hwas e0 e1 e2 e3
   go_wp2_with fail
   ((with_reducible refine HAl1.out.mono ?_);rintro e w6 ⟨vL,rfl,hL⟩)
   obtain ⟨AL,lc,rfl,hO6,-⟩:=row_ods (L:=M.L) hL.out.1 HLy.out.hd.len HOk.out
   rw [HNn.out.2.2.1] at hO6 ⊢
   have HO6:=Lib.hid hO6
   have B6:=Lib.hid (hB.out.trans (hL.out.2.mono hB.out.size))
   clear hL HAl1 hB hO6
   go_wp2_with fail
   go_loopg [73,15] nM (fun kx si ss wr=>∃ i:Nat,si = .int .i64 (i:Int)∧ss = .int .i64 (sQL M.L i)∧i≤nM∧nM - i≤kx∧Hid (Below w6.heap.size w6 wr))
   case atStart=>exact ⟨0,rfl,rfl,by omega,by omega,Lib.hid (Below.refl _ _)⟩
   case round =>
    obtain ⟨i,rfl,rfl,hi,hkx,hB⟩:=hrel
    by_cases hlt:i < nM
    ·have hltI:(i:Int) < (nM:Int):=by omega
     have hi0:(0:Int)≤(i:Int):=by omega
     obtain ⟨b9,off,rfl,hb,hcx⟩:∃ b off,AL = some ⟨b,off,none⟩∧b < wr.heap.size∧∀ i,i < nM → (M.L[i]!).at wr b (off + i * 6):=by
      rcases (HO6.out.below hB.out).2.2.2 with h | h
      ·omega
      ·exact h
     have hx:=hcx i hlt
     obtain ⟨x,ex⟩:∃ x,M.L[i]! = x:=⟨_,rfl⟩
     rw [ex] at hx
     obtain ⟨s,hs⟩:∃ s,sQL M.L i = s:=⟨_,rfl⟩
     have hrg:=HS2.out (i + 1) (by omega)
     have e1:sQL M.L (i + 1) = s + x.qty:=by rw [← hs,← ex];rfl
     rw [e1] at hrg
     have hwr:IntKind.i64.wrap (s + x.qty) = s + x.qty:=by rw [IntKind.wrap_i64];omega
     have HE1:=Lib.hid e1
     have HBx:Hid (Below w6.heap.size w6 (wr.alloc (.cells (OC x) 38))):=Lib.hid (hB.out.alloc hB.out.size _)
     rw [hs]
     obtain ⟨x0,x1,x2,x3,x4,x5⟩:=hx
     clear hcx hb ex hs hrg e1
     go_wp2_with fail
     go_roundg (nM - (i + 1))
     case measure=>omega
     case rel=>exact ⟨i + 1,by go_num,by rw [HE1.out],by omega,by omega,HBx⟩
    ·have hltI:¬ (i:Int) < (nM:Int):=by omega
     obtain rfl:nM = i:=by omega
     obtain ⟨nw,hnw⟩:∃ s,sQL M.L nM = s:=⟨_,rfl⟩
     rw [hnw]
     have HW2:=Lib.hid hnw
     have B7:=Lib.hid (B6.out.trans (hB.out.mono B6.out.size))
     obtain ⟨e0,e1,e2,e3⟩:=NR.out _ B7.out
     clear hnw hB
     go_wp2_with fail
     go_loopg [85,16] nD (fun kx si ss wr=>∃ i:Nat,si = .int .i64 (i:Int)∧ss = .int .i64 (sQL M.D i)∧i≤nD∧nD - i≤kx∧Hid (Below w5.heap.size w5 wr))
     case atStart=>exact ⟨0,rfl,rfl,by omega,by omega,Lib.hid B7.out⟩
     case round =>
      obtain ⟨i,rfl,rfl,hi,hkx,hB⟩:=hrel
      by_cases hlt:i < nD
      ·have hltI:(i:Int) < (nD:Int):=by omega
       have hi0:(0:Int)≤(i:Int):=by omega
       obtain ⟨g9,rfl,hg9,hx⟩:=HDa.out wr hB.out i hlt
       have hd9:=HK.out.dr i (by rw [HNn.out.2.1];exact hlt)
       obtain ⟨x,ex⟩:∃ x,M.D[i]! = x:=⟨_,rfl⟩
       rw [ex] at hx hd9
       obtain ⟨d1,d2⟩:=hd9
       obtain ⟨s,hs⟩:∃ s,sQL M.D i = s:=⟨_,rfl⟩
       have hrg:=HS3.out (i + 1) (by omega)
       have e9:sQL M.D (i + 1) = s + x.qty:=by rw [← hs,← ex];rfl
       rw [e9] at hrg
       have hwr:IntKind.i64.wrap (s + x.qty) = s + x.qty:=by rw [IntKind.wrap_i64];omega
       have HE1:=Lib.hid e9
       have HBx:Hid (Below w5.heap.size w5 (wr.alloc (.cells #[.int .u64 x.id,.int .i64 x.acc,.int .i64 x.side,.int .i64 x.price,.int .i64 x.qty,.int .u64 x.seq] 38))):=Lib.hid (hB.out.alloc hB.out.size _)
       obtain ⟨k0,k1,-,-,-⟩:=N4.out _ HBx.out
       rw [hs]
       obtain ⟨x0,x1,x2,x3,x4,x5⟩:=hx
       clear ex hs hrg e9 hg9
       go_wp2_with fail
       go_roundg (nD - (i + 1))
       case measure=>omega
       case rel=>exact ⟨i + 1,by go_num,by rw [HE1.out],by omega,by omega,HBx⟩
      ·have hltI:¬ (i:Int) < (nD:Int):=by omega
       obtain rfl:nD = i:=by omega
       obtain ⟨gD,hgD⟩:∃ s,sQL M.D nD = s:=⟨_,rfl⟩
       have HGD:Hid (0≤gD∧gD≤70368744177664):=Lib.hid (by have:=HS3.out nD (Nat.le_refl _);rw [hgD] at this;omega)
       have HLF:Hid (0≤lf∧lf≤1099511627776):=Lib.hid (by
        have h1:=HK.out.l0
        have h2:=HK.out.left
        have h3:=(HS4.out _ (Nat.le_refl _)).1
        have h4:=HF.out.q1
        rw [HNn.out.2.2.2] at h1 h2
        rw [HNn.out.1] at h2
        omega)
       rw [hgD]
       have HW3:=Lib.hid hgD
       have B8:=Lib.hid hB.out
       obtain ⟨e0,e1,e2,e3⟩:=NR.out _ B8.out
       clear hgD hB
       go_wp2_with fail
       go_loopg [109,13,16] nF (fun kx si s13 s16 wr=>∃ i:Nat,si = .int .i64 (i:Int)∧s13 = .int .i64 (lf + sFL M.F i)∧s16 = .int .i64 (gD + sFL M.F i)∧i≤nF∧nF - i≤kx∧Hid (Below w5.heap.size w5 wr))
       case atStart=>exact ⟨0,rfl,by rw [sFL_zero,Int.add_zero],by rw [sFL_zero,Int.add_zero],by omega,by omega,Lib.hid B8.out⟩
       case round =>
        obtain ⟨i,rfl,rfl,rfl,hi,hkx,hB⟩:=hrel
        by_cases hlt:i < nF
        ·have hltI:(i:Int) < (nF:Int):=by omega
         have hi0:(0:Int)≤(i:Int):=by omega
         obtain ⟨g9,rfl,hg9,hx,hy⟩:=HFa.out wr hB.out i hlt
         have hd9:=HK.out.fl i (by rw [HNn.out.1];exact hlt)
         obtain ⟨⟨x,qq⟩,ex⟩:∃ y,M.F[i]! = y:=⟨_,rfl⟩
         rw [ex] at hx hy hd9
         dsimp only at hx hy
         obtain ⟨hq1,hq2,hq3,hq4,hq5,-⟩:=hd9
         dsimp only at hq1 hq2 hq3 hq4 hq5
         have d1:decide (qq < 1) = false:=decide_eq_false (by omega)
         have d2:decide (x.qty < qq) = false:=decide_eq_false (by omega)
         have d3:(x.side == R.side) = false:=by have:=HF.out.side;simp only [hq3,beq_eq_false_iff_ne,ne_eq];omega
         have hrg:=HS4.out (i + 1) (by omega)
         have hrg0:=HS4.out i (by omega)
         have e9:sFL M.F (i + 1) = sFL M.F i + qq:=by show sF _ i + (M.F[i]!).2 = _;rw [ex];rfl
         rw [e9] at hrg
         have hl9:=HLF.out
         have hg9':=HGD.out
         obtain ⟨u,hu⟩:∃ s,lf + sFL M.F i = s:=⟨_,rfl⟩
         obtain ⟨u2,hu2⟩:∃ s,gD + sFL M.F i = s:=⟨_,rfl⟩
         have hwr:IntKind.i64.wrap (u + qq) = u + qq:=by rw [IntKind.wrap_i64];omega
         have hwr2:IntKind.i64.wrap (u2 + qq) = u2 + qq:=by rw [IntKind.wrap_i64];omega
         have HE1:Hid (lf + sFL M.F (i + 1) = u + qq):=Lib.hid (by rw [e9,← hu];omega)
         have HE2:Hid (gD + sFL M.F (i + 1) = u2 + qq):=Lib.hid (by rw [e9,← hu2];omega)
         have HBx:Hid (Below w5.heap.size w5 (wr.alloc (.cells #[.int .u64 x.id,.int .i64 x.acc,.int .i64 x.side,.int .i64 x.price,.int .i64 x.qty,.int .u64 x.seq,.int .i64 qq] 90))):=Lib.hid (hB.out.alloc hB.out.size _)
         obtain ⟨k0,k1,k2,-,-⟩:=N4.out _ HBx.out
         obtain ⟨-,k7⟩:=N5.out _ HBx.out
         rw [hu,hu2]
         obtain ⟨x0,x1,x2,x3,x4,x5⟩:=hx
         clear ex hu hu2 hrg hrg0 e9 hg9 hg9' hl9 hq1 hq2 hq3
         by_cases hp0:R.price = 0
         ·by_cases hs0:R.self = 1
          ·have p1:(R.price != 0) = false:=by simp [hp0]
           have p2:(R.self != 1) = false:=by simp [hs0]
           clear hp0 hs0 hq4 hq5
           go_wp2_with fail
           go_roundg (nF - (i + 1))
           case measure=>omega
           case rel=>exact ⟨i + 1,by go_num,by rw [HE1.out],by rw [HE2.out],by omega,by omega,HBx⟩
          ·have p1:(R.price != 0) = false:=by simp [hp0]
           have p2:(R.self != 1) = true:=by simp [hs0]
           have p3:(x.acc == R.acc) = false:=by unfold isOwn at hq5;simpa [hs0] using hq5
           clear hp0 hs0 hq4 hq5
           go_wp2_with fail
           go_roundg (nF - (i + 1))
           case measure=>omega
           case rel=>exact ⟨i + 1,by go_num,by rw [HE1.out],by rw [HE2.out],by omega,by omega,HBx⟩
         ·by_cases hs0:R.self = 1
          ·have p1:(R.price != 0) = true:=by simp [hp0]
           have HCr:Hid (∀ W,Calls Tryz.prog 41 #[.int .i64 R.side,.int .i64 R.price,.int .i64 x.price] W fun e w'=>e = .returned (.bool true)∧W = w'):=Lib.hid (fun W=>by have h:=crosses_c R.side R.price x.price W;rw [hq4.resolve_left hp0] at h;exact h)
           have p2:(R.self != 1) = false:=by simp [hs0]
           clear hp0 hs0 hq4 hq5
           go_wp2_with ((with_reducible refine (HCr.out _).mono ?_);rintro e w9 ⟨rfl,rfl⟩)
           go_roundg (nF - (i + 1))
           case measure=>omega
           case rel=>exact ⟨i + 1,by go_num,by rw [HE1.out],by rw [HE2.out],by omega,by omega,HBx⟩
          ·have p1:(R.price != 0) = true:=by simp [hp0]
           have HCr:Hid (∀ W,Calls Tryz.prog 41 #[.int .i64 R.side,.int .i64 R.price,.int .i64 x.price] W fun e w'=>e = .returned (.bool true)∧W = w'):=Lib.hid (fun W=>by have h:=crosses_c R.side R.price x.price W;rw [hq4.resolve_left hp0] at h;exact h)
           have p2:(R.self != 1) = true:=by simp [hs0]
           have p3:(x.acc == R.acc) = false:=by unfold isOwn at hq5;simpa [hs0] using hq5
           clear hp0 hs0 hq4 hq5
           go_wp2_with ((with_reducible refine (HCr.out _).mono ?_);rintro e w9 ⟨rfl,rfl⟩)
           go_roundg (nF - (i + 1))
           case measure=>omega
           case rel=>exact ⟨i + 1,by go_num,by rw [HE1.out],by rw [HE2.out],by omega,by omega,HBx⟩
        ·have hltI:¬ (i:Int) < (nF:Int):=by omega
         obtain rfl:nF = i:=by omega
         have hq9:lf + sFL M.F nF = q:=by have h:=HK.out.left;rw [HNn.out.2.2.2,HNn.out.1] at h;exact h
         obtain ⟨gn,hgn⟩:∃ s,gD + sFL M.F nF = s:=⟨_,rfl⟩
         have hw9:IntKind.i64.wrap (nw + gn) = was:=by
          have h:=HK.out.sum
          rw [HLn.out,HNn.out.1,HNn.out.2.1,HNn.out.2.2.1,HW1.out,HW2.out,HW3.out] at h
          have h2:=HS1.out _ (Nat.le_refl _)
          rw [HW1.out] at h2
          rw [IntKind.wrap_i64];omega
         rw [hq9,hgn]
         have hl9:decide (lf < 0) = false:=decide_eq_false (by have:=HLF.out;omega)
         have m1:(q != q) = false:=by simp
         have B0:=Lib.hid (B5.out.trans (hB.out.mono B5.out.size))
         obtain ⟨-,-,m2,m3⟩:=NR.out _ hB.out
         obtain ⟨-,k1,-,k3,k4⟩:=N4.out _ hB.out
         obtain ⟨j2,-⟩:=N5.out _ hB.out
         have HWhy:Hid (¬ lf = 0 → st = false → ¬ (R.side = 1∧0≤cash) → ¬ lf < R.lot → alB R.lot L = true → ∀ x ∈ M.L,¬ x.side = R.side → ¬ R.price = 0∧croN R.side R.price x.price = false):=Lib.hid (by have h:=HK.out.why;rw [HNn.out.2.2.2] at h;exact h)
         clear hq9 hgn HK HS1 HS2 HS3 HS4 HFa HDa HW1 HW2 HW3 HO6
         by_cases h1:lf = 0
         ·have p1:(lf == 0) = true:=by simp [h1]
          clear h1
          go_wp2_with ((with_reducible refine (HLv.out _).mono ?_);rintro e w9 ⟨rfl,hb9⟩)
          go_ret
          exact ⟨rfl,B0.out.trans (hb9.mono B0.out.size)⟩
         ·have p1:(lf == 0) = false:=by simp [h1]
          cases st with
          | true =>
           clear h1
           go_wp2_with ((with_reducible refine (HLv.out _).mono ?_);rintro e w9 ⟨rfl,hb9⟩)
           go_ret
           exact ⟨rfl,B0.out.trans (hb9.mono B0.out.size)⟩
          | false =>
           by_cases h2:R.side = 1
           ·have p2:(R.side == 1) = true:=by simp [h2]
            by_cases h3:0≤cash
            ·have p3:decide (0≤cash) = true:=decide_eq_true h3
             clear h1 h2 h3
             go_wp2_with ((with_reducible refine (HLv.out _).mono ?_);rintro e w9 ⟨rfl,hb9⟩)
             go_ret
             exact ⟨rfl,B0.out.trans (hb9.mono B0.out.size)⟩
            ·have p3:decide (0≤cash) = false:=decide_eq_false h3
             by_cases h4:lf < R.lot
             ·have p4:decide (lf < R.lot) = true:=decide_eq_true h4
              clear h1 h2 h3 h4
              go_wp2_with ((with_reducible refine (HLv.out _).mono ?_);rintro e w9 ⟨rfl,hb9⟩)
              go_ret
              exact ⟨rfl,B0.out.trans (hb9.mono B0.out.size)⟩
             ·have p4:decide (lf < R.lot) = false:=decide_eq_false h4
              replace HWhy:=Lib.hid (HWhy.out h1 rfl (fun h=>h3 h.2) h4)
              clear h1 h2 h3 h4
              as_aux_lemma =>
               have HAl5:=Lib.hid (HAl.out wr hB.out)
               unfold RowEnd at HAl5
               have HAn0:Hid (∀ W,Below w5.heap.size w5 W → Calls Tryz.prog 42 #[.slice A n c,.int .i64 R.lot] W fun e w'=>e = .returned (.bool (alB R.lot L))∧Below W.heap.size W w'):=Lib.hid (fun W hW=>alone_c A n c L R.lot W (HOl.out.below hW) HF.out.l0 HBk.out.2.1 (by rw [← HLn.out];exact HBk.out.1))
               go_wp2_with fail
               ((with_reducible refine HAl5.out.mono ?_);rintro e w8 ⟨vL,rfl,hL⟩)
               obtain ⟨AL,lc,rfl,hO8,-⟩:=row_ods (L:=M.L) hL.out.1 HLy.out.hd.len HOk.out
               rw [HNn.out.2.2.1] at hO8 ⊢
               have HO8:=Lib.hid hO8
               have B9:=Lib.hid (hB.out.trans (hL.out.2.mono hB.out.size))
               clear hL HAl5 hB hO8 m2 m3 k1 k3 k4 j2
               go_wp2_with fail
               go_loopg [214] nM (fun kx si wr=>∃ i:Nat,si = .int .i64 (i:Int)∧i≤nM∧nM - i≤kx∧Hid (Below w8.heap.size w8 wr))
               case atStart=>exact ⟨0,rfl,by omega,by omega,Lib.hid (Below.refl _ _)⟩
               case round =>
                obtain ⟨i,rfl,hi,hkx,hB⟩:=hrel
                by_cases hlt:i < nM
                ·have hltI:(i:Int) < (nM:Int):=by omega
                 have hi0:(0:Int)≤(i:Int):=by omega
                 obtain ⟨b9,off,rfl,hb,hcx⟩:∃ b off,AL = some ⟨b,off,none⟩∧b < wr.heap.size∧∀ i,i < nM → (M.L[i]!).at wr b (off + i * 6):=by
                  rcases (HO8.out.below hB.out).2.2.2 with h | h
                  ·omega
                  ·exact h
                 have hx:=hcx i hlt
                 obtain ⟨x,ex⟩:∃ x,M.L[i]! = x:=⟨_,rfl⟩
                 rw [ex] at hx
                 have HBx8:Hid (Below w8.heap.size w8 (wr.alloc (.cells #[.int .u64 x.id,.int .i64 x.acc,.int .i64 x.side,.int .i64 x.price,.int .i64 x.qty,.int .u64 x.seq] 38))):=Lib.hid (hB.out.alloc hB.out.size _)
                 have HBx:Hid (Below w5.heap.size w5 (wr.alloc (.cells #[.int .u64 x.id,.int .i64 x.acc,.int .i64 x.side,.int .i64 x.price,.int .i64 x.qty,.int .u64 x.seq] 38))):=Lib.hid (B9.out.trans (HBx8.out.mono B9.out.size))
                 obtain ⟨k0,k1,k2,-,-⟩:=N4.out _ HBx.out
                 obtain ⟨j2,-⟩:=N5.out _ HBx.out
                 have hmem:x ∈ M.L:=by rw [← ex];exact bang_mem (by rw [HNn.out.2.2.1];exact hlt)
                 have hlz:¬ R.lot = 0:=by have:=HF.out.l0;omega
                 obtain ⟨x0,x1,x2,x3,x4,x5⟩:=hx
                 clear hcx hb ex
                 by_cases hs:x.side = R.side
                 ·have p0:(x.side != R.side) = false:=by simp [hs]
                  clear hs hmem
                  go_wp2_with fail
                  go_roundg (nM - (i + 1))
                  case measure=>omega
                  case rel=>exact ⟨i + 1,by go_num,by omega,by omega,HBx8⟩
                 ·have p0:(x.side != R.side) = true:=by simp [hs]
                  have HNa:=Lib.hid (fun h5=>HWhy.out h5 x hmem hs)
                  clear hs hmem
                  by_cases hp0:R.price = 0
                  ·have p1:(R.price == 0) = true:=by simp [hp0]
                   have HAn:Hid (∀ W,Below w5.heap.size w5 W → Calls Tryz.prog 42 #[.slice A n c,.int .i64 R.lot] W fun e w'=>e = .returned (.bool false)∧Below W.heap.size W w'):=Lib.hid (fun W hW=>by
                    have h:=HAn0.out W hW
                    have e:alB R.lot L = false:=by
                     cases h5:alB R.lot L with
                     | false=>rfl
                     | true=>exact absurd hp0 (HNa.out h5).1
                    rw [e] at h;exact h)
                   clear hp0
                   obtain ⟨rm,hrm⟩:∃ r,x.qty.tmod R.lot = r:=⟨_,rfl⟩
                   by_cases hr0:rm = 0
                   ·have p3:(rm == 0) = true:=by simp [hr0]
                    by_cases ha0:x.acc = R.acc
                    ·have p4:(x.acc != R.acc) = false:=by simp [ha0]
                     clear hr0 ha0
                     go_wp2_with fail
                     go_roundg (nM - (i + 1))
                     case measure=>omega
                     case rel=>exact ⟨i + 1,by go_num,by omega,by omega,HBx8⟩
                    ·have p4:(x.acc != R.acc) = true:=by simp [ha0]
                     clear hr0 ha0
                     go_wp2_with ((with_reducible refine (HAn.out _ HBx.out).mono ?_);rintro e w9 ⟨rfl,hb9⟩;have HB9:=Lib.hid (HBx8.out.trans (hb9.mono HBx8.out.size));clear hb9)
                     go_roundg (nM - (i + 1))
                     case measure=>omega
                     case rel=>exact ⟨i + 1,by go_num,by omega,by omega,HB9⟩
                   ·have p3:(rm == 0) = false:=by simp [hr0]
                    clear hr0
                    go_wp2_with fail
                    go_roundg (nM - (i + 1))
                    case measure=>omega
                    case rel=>exact ⟨i + 1,by go_num,by omega,by omega,HBx8⟩
                  ·have p1:(R.price == 0) = false:=by simp [hp0]
                   cases hcr:croN R.side R.price x.price with
                   | false =>
                    have HCr:Hid (∀ W,Calls Tryz.prog 41 #[.int .i64 R.side,.int .i64 R.price,.int .i64 x.price] W fun e w'=>e = .returned (.bool false)∧W = w'):=Lib.hid (fun W=>by have h:=crosses_c R.side R.price x.price W;rw [hcr] at h;exact h)
                    clear hp0 hcr
                    go_wp2_with ((with_reducible refine (HCr.out _).mono ?_);rintro e w9 ⟨rfl,rfl⟩)
                    go_roundg (nM - (i + 1))
                    case measure=>omega
                    case rel=>exact ⟨i + 1,by go_num,by omega,by omega,HBx8⟩
                   | true =>
                    have HCr:Hid (∀ W,Calls Tryz.prog 41 #[.int .i64 R.side,.int .i64 R.price,.int .i64 x.price] W fun e w'=>e = .returned (.bool true)∧W = w'):=Lib.hid (fun W=>by have h:=crosses_c R.side R.price x.price W;rw [hcr] at h;exact h)
                    have HAn:Hid (∀ W,Below w5.heap.size w5 W → Calls Tryz.prog 42 #[.slice A n c,.int .i64 R.lot] W fun e w'=>e = .returned (.bool false)∧Below W.heap.size W w'):=Lib.hid (fun W hW=>by
                     have h:=HAn0.out W hW
                     have e:alB R.lot L = false:=by
                      cases h5:alB R.lot L with
                      | false=>rfl
                      | true=>have:=(HNa.out h5).2;rw [hcr] at this;cases this
                     rw [e] at h;exact h)
                    clear hp0 hcr
                    obtain ⟨rm,hrm⟩:∃ r,x.qty.tmod R.lot = r:=⟨_,rfl⟩
                    by_cases hr0:rm = 0
                    ·have p3:(rm == 0) = true:=by simp [hr0]
                     by_cases ha0:x.acc = R.acc
                     ·have p4:(x.acc != R.acc) = false:=by simp [ha0]
                      clear hr0 ha0
                      go_wp2_with ((with_reducible refine (HCr.out _).mono ?_);rintro e w9 ⟨rfl,rfl⟩)
                      go_roundg (nM - (i + 1))
                      case measure=>omega
                      case rel=>exact ⟨i + 1,by go_num,by omega,by omega,HBx8⟩
                     ·have p4:(x.acc != R.acc) = true:=by simp [ha0]
                      clear hr0 ha0
                      go_wp2_with (first | ((with_reducible refine (HCr.out _).mono ?_);rintro e w9 ⟨rfl,rfl⟩) | ((with_reducible refine (HAn.out _ HBx.out).mono ?_);rintro e w9 ⟨rfl,hb9⟩;have HB9:=Lib.hid (HBx8.out.trans (hb9.mono HBx8.out.size));clear hb9))
                      go_roundg (nM - (i + 1))
                      case measure=>omega
                      case rel=>exact ⟨i + 1,by go_num,by omega,by omega,HB9⟩
                    ·have p3:(rm == 0) = false:=by simp [hr0]
                     clear hr0
                     go_wp2_with ((with_reducible refine (HCr.out _).mono ?_);rintro e w9 ⟨rfl,rfl⟩)
                     go_roundg (nM - (i + 1))
                     case measure=>omega
                     case rel=>exact ⟨i + 1,by go_num,by omega,by omega,HBx8⟩
                ·have hltI:¬ (i:Int) < (nM:Int):=by omega
                 obtain rfl:nM = i:=by omega
                 have BE:=Lib.hid (B5.out.trans ((B9.out.trans (hB.out.mono B9.out.size)).mono B5.out.size))
                 clear hB
                 go_wp2_with ((with_reducible refine (HLv.out _).mono ?_);rintro e w9 ⟨rfl,hb9⟩)
                 go_ret
                 exact ⟨rfl,BE.out.trans (hb9.mono BE.out.size)⟩
           ·have p2:(R.side == 1) = false:=by simp [h2]
            by_cases h4:lf < R.lot
            ·have p4:decide (lf < R.lot) = true:=decide_eq_true h4
             clear h1 h2 h4
             go_wp2_with ((with_reducible refine (HLv.out _).mono ?_);rintro e w9 ⟨rfl,hb9⟩)
             go_ret
             exact ⟨rfl,B0.out.trans (hb9.mono B0.out.size)⟩
            ·have p4:decide (lf < R.lot) = false:=decide_eq_false h4
             replace HWhy:=Lib.hid (HWhy.out h1 rfl (fun h=>h2 h.1) h4)
             clear h1 h2 h4
             as_aux_lemma =>
              have HAl5:=Lib.hid (HAl.out wr hB.out)
              unfold RowEnd at HAl5
              have HAn0:Hid (∀ W,Below w5.heap.size w5 W → Calls Tryz.prog 42 #[.slice A n c,.int .i64 R.lot] W fun e w'=>e = .returned (.bool (alB R.lot L))∧Below W.heap.size W w'):=Lib.hid (fun W hW=>alone_c A n c L R.lot W (HOl.out.below hW) HF.out.l0 HBk.out.2.1 (by rw [← HLn.out];exact HBk.out.1))
              go_wp2_with fail
              ((with_reducible refine HAl5.out.mono ?_);rintro e w8 ⟨vL,rfl,hL⟩)
              obtain ⟨AL,lc,rfl,hO8,-⟩:=row_ods (L:=M.L) hL.out.1 HLy.out.hd.len HOk.out
              rw [HNn.out.2.2.1] at hO8 ⊢
              have HO8:=Lib.hid hO8
              have B9:=Lib.hid (hB.out.trans (hL.out.2.mono hB.out.size))
              clear hL HAl5 hB hO8 m2 m3 k1 k3 k4 j2
              go_wp2_with fail
              go_loopg [214] nM (fun kx si wr=>∃ i:Nat,si = .int .i64 (i:Int)∧i≤nM∧nM - i≤kx∧Hid (Below w8.heap.size w8 wr))
              case atStart=>exact ⟨0,rfl,by omega,by omega,Lib.hid (Below.refl _ _)⟩
              case round =>
               obtain ⟨i,rfl,hi,hkx,hB⟩:=hrel
               by_cases hlt:i < nM
               ·have hltI:(i:Int) < (nM:Int):=by omega
                have hi0:(0:Int)≤(i:Int):=by omega
                obtain ⟨b9,off,rfl,hb,hcx⟩:∃ b off,AL = some ⟨b,off,none⟩∧b < wr.heap.size∧∀ i,i < nM → (M.L[i]!).at wr b (off + i * 6):=by
                 rcases (HO8.out.below hB.out).2.2.2 with h | h
                 ·omega
                 ·exact h
                have hx:=hcx i hlt
                obtain ⟨x,ex⟩:∃ x,M.L[i]! = x:=⟨_,rfl⟩
                rw [ex] at hx
                have HBx8:Hid (Below w8.heap.size w8 (wr.alloc (.cells #[.int .u64 x.id,.int .i64 x.acc,.int .i64 x.side,.int .i64 x.price,.int .i64 x.qty,.int .u64 x.seq] 38))):=Lib.hid (hB.out.alloc hB.out.size _)
                have HBx:Hid (Below w5.heap.size w5 (wr.alloc (.cells #[.int .u64 x.id,.int .i64 x.acc,.int .i64 x.side,.int .i64 x.price,.int .i64 x.qty,.int .u64 x.seq] 38))):=Lib.hid (B9.out.trans (HBx8.out.mono B9.out.size))
                obtain ⟨k0,k1,k2,-,-⟩:=N4.out _ HBx.out
                obtain ⟨j2,-⟩:=N5.out _ HBx.out
                have hmem:x ∈ M.L:=by rw [← ex];exact bang_mem (by rw [HNn.out.2.2.1];exact hlt)
                have hlz:¬ R.lot = 0:=by have:=HF.out.l0;omega
                obtain ⟨x0,x1,x2,x3,x4,x5⟩:=hx
                clear hcx hb ex
                by_cases hs:x.side = R.side
                ·have p0:(x.side != R.side) = false:=by simp [hs]
                 clear hs hmem
                 go_wp2_with fail
                 go_roundg (nM - (i + 1))
                 case measure=>omega
                 case rel=>exact ⟨i + 1,by go_num,by omega,by omega,HBx8⟩
                ·have p0:(x.side != R.side) = true:=by simp [hs]
                 have HNa:=Lib.hid (fun h5=>HWhy.out h5 x hmem hs)
                 clear hs hmem
                 by_cases hp0:R.price = 0
                 ·have p1:(R.price == 0) = true:=by simp [hp0]
                  have HAn:Hid (∀ W,Below w5.heap.size w5 W → Calls Tryz.prog 42 #[.slice A n c,.int .i64 R.lot] W fun e w'=>e = .returned (.bool false)∧Below W.heap.size W w'):=Lib.hid (fun W hW=>by
                   have h:=HAn0.out W hW
                   have e:alB R.lot L = false:=by
                    cases h5:alB R.lot L with
                    | false=>rfl
                    | true=>exact absurd hp0 (HNa.out h5).1
                   rw [e] at h;exact h)
                  clear hp0
                  obtain ⟨rm,hrm⟩:∃ r,x.qty.tmod R.lot = r:=⟨_,rfl⟩
                  by_cases hr0:rm = 0
                  ·have p3:(rm == 0) = true:=by simp [hr0]
                   by_cases ha0:x.acc = R.acc
                   ·have p4:(x.acc != R.acc) = false:=by simp [ha0]
                    clear hr0 ha0
                    go_wp2_with fail
                    go_roundg (nM - (i + 1))
                    case measure=>omega
                    case rel=>exact ⟨i + 1,by go_num,by omega,by omega,HBx8⟩
                   ·have p4:(x.acc != R.acc) = true:=by simp [ha0]
                    clear hr0 ha0
                    go_wp2_with ((with_reducible refine (HAn.out _ HBx.out).mono ?_);rintro e w9 ⟨rfl,hb9⟩;have HB9:=Lib.hid (HBx8.out.trans (hb9.mono HBx8.out.size));clear hb9)
                    go_roundg (nM - (i + 1))
                    case measure=>omega
                    case rel=>exact ⟨i + 1,by go_num,by omega,by omega,HB9⟩
                  ·have p3:(rm == 0) = false:=by simp [hr0]
                   clear hr0
                   go_wp2_with fail
                   go_roundg (nM - (i + 1))
                   case measure=>omega
                   case rel=>exact ⟨i + 1,by go_num,by omega,by omega,HBx8⟩
                 ·have p1:(R.price == 0) = false:=by simp [hp0]
                  cases hcr:croN R.side R.price x.price with
                  | false =>
                   have HCr:Hid (∀ W,Calls Tryz.prog 41 #[.int .i64 R.side,.int .i64 R.price,.int .i64 x.price] W fun e w'=>e = .returned (.bool false)∧W = w'):=Lib.hid (fun W=>by have h:=crosses_c R.side R.price x.price W;rw [hcr] at h;exact h)
                   clear hp0 hcr
                   go_wp2_with ((with_reducible refine (HCr.out _).mono ?_);rintro e w9 ⟨rfl,rfl⟩)
                   go_roundg (nM - (i + 1))
                   case measure=>omega
                   case rel=>exact ⟨i + 1,by go_num,by omega,by omega,HBx8⟩
                  | true =>
                   have HCr:Hid (∀ W,Calls Tryz.prog 41 #[.int .i64 R.side,.int .i64 R.price,.int .i64 x.price] W fun e w'=>e = .returned (.bool true)∧W = w'):=Lib.hid (fun W=>by have h:=crosses_c R.side R.price x.price W;rw [hcr] at h;exact h)
                   have HAn:Hid (∀ W,Below w5.heap.size w5 W → Calls Tryz.prog 42 #[.slice A n c,.int .i64 R.lot] W fun e w'=>e = .returned (.bool false)∧Below W.heap.size W w'):=Lib.hid (fun W hW=>by
                    have h:=HAn0.out W hW
                    have e:alB R.lot L = false:=by
                     cases h5:alB R.lot L with
                     | false=>rfl
                     | true=>have:=(HNa.out h5).2;rw [hcr] at this;cases this
                    rw [e] at h;exact h)
                   clear hp0 hcr
                   obtain ⟨rm,hrm⟩:∃ r,x.qty.tmod R.lot = r:=⟨_,rfl⟩
                   by_cases hr0:rm = 0
                   ·have p3:(rm == 0) = true:=by simp [hr0]
                    by_cases ha0:x.acc = R.acc
                    ·have p4:(x.acc != R.acc) = false:=by simp [ha0]
                     clear hr0 ha0
                     go_wp2_with ((with_reducible refine (HCr.out _).mono ?_);rintro e w9 ⟨rfl,rfl⟩)
                     go_roundg (nM - (i + 1))
                     case measure=>omega
                     case rel=>exact ⟨i + 1,by go_num,by omega,by omega,HBx8⟩
                    ·have p4:(x.acc != R.acc) = true:=by simp [ha0]
                     clear hr0 ha0
                     go_wp2_with (first | ((with_reducible refine (HCr.out _).mono ?_);rintro e w9 ⟨rfl,rfl⟩) | ((with_reducible refine (HAn.out _ HBx.out).mono ?_);rintro e w9 ⟨rfl,hb9⟩;have HB9:=Lib.hid (HBx8.out.trans (hb9.mono HBx8.out.size));clear hb9))
                     go_roundg (nM - (i + 1))
                     case measure=>omega
                     case rel=>exact ⟨i + 1,by go_num,by omega,by omega,HB9⟩
                   ·have p3:(rm == 0) = false:=by simp [hr0]
                    clear hr0
                    go_wp2_with ((with_reducible refine (HCr.out _).mono ?_);rintro e w9 ⟨rfl,rfl⟩)
                    go_roundg (nM - (i + 1))
                    case measure=>omega
                    case rel=>exact ⟨i + 1,by go_num,by omega,by omega,HBx8⟩
               ·have hltI:¬ (i:Int) < (nM:Int):=by omega
                obtain rfl:nM = i:=by omega
                have BE:=Lib.hid (B5.out.trans ((B9.out.trans (hB.out.mono B9.out.size)).mono B5.out.size))
                clear hB
                go_wp2_with ((with_reducible refine (HLv.out _).mono ?_);rintro e w9 ⟨rfl,hb9⟩)
                go_ret
                exact ⟨rfl,BE.out.trans (hb9.mono BE.out.size)⟩
end Go.Proofs.YtikapeaodobkjaaGreat
