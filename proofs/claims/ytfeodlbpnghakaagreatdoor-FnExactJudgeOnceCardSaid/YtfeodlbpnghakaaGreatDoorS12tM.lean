/-
  Texts that stood by themselves, laid into one.
-/
import Derived.Test.YtfeodlbpnghakaaGreatDoorWSsM
import Derived.Test.YtfeodlbpnghakaaGreatDoorSInstrM
import Derived.Test.YtfeodlbpnghakaaGreatDoorXRM
import Derived.Test.YtfeodlbpnghakaaGreatDoorSR8M
import Derived.Test.YtfeodlbpnghakaaGreatDoorSGTextM
import Derived.Test.YtfeodlbpnghakaaGreatDoorMcTM
/-
  Worlds: what one is, and the contracts of the laws' szWorld, toWorld, eqWorld. No condition.
-/
set_option maxRecDepth 100000
set_option maxHeartbeats 12800000
namespace Go.Proofs.YtfeodlbpnghakaaGreatDoor
open Go.RowKit
structure Wd where
 ns:List Nd
 is:List In
 ds:List Df
 pl:Int
 hs:List Hm
 ls:List Lk
 gs:List Gm
 ps:List Pd
 nx:Int
 ga:List (List ByteArray)
 tk:List (List ByteArray)
theorem InRow.kp {w j:World}{v:Value}{f:List In}{B:Nat}(R:InRow w v f)(k:Fr B v)(h:Kp B w j):InRow j v f:=by
 obtain ⟨p,c,rfl,n,m,l,a⟩:=R
 refine ⟨p,c,rfl,n,m,l,fun b=>?_⟩
 obtain ⟨g,o,rfl,d,a⟩:=a b
 have e:=Zdp h k rfl d
 refine ⟨g,o,rfl,Nat.lt_of_lt_of_le d h.1,fun i x hi=>?_⟩
 obtain ⟨c0,c1,c2,c3⟩:=a i x hi
 exact ⟨(World.cell?_of_block e).trans c0,(World.cell?_of_block e).trans c1,(World.cell?_of_block e).trans c2,(World.cell?_of_block e).trans c3⟩
theorem DfRow.kp {w j:World}{v:Value}{f:List Df}{B:Nat}(R:DfRow w v f)(k:Fr B v)(h:Kp B w j):DfRow j v f:=by
 obtain ⟨p,c,rfl,n,m,l,a⟩:=R
 refine ⟨p,c,rfl,n,m,l,fun b=>?_⟩
 obtain ⟨g,o,rfl,d,a⟩:=a b
 have e:=Zdp h k rfl d
 refine ⟨g,o,rfl,Nat.lt_of_lt_of_le d h.1,fun i x hi=>?_⟩
 obtain ⟨c0,c1,c2⟩:=a i x hi
 exact ⟨(World.cell?_of_block e).trans c0,(World.cell?_of_block e).trans c1,(World.cell?_of_block e).trans c2⟩
structure WR (B:Nat)(w:World)(vn vi vf vh vl vg vp va vt:Value)(d:Wd):Prop where
 rn:NRow w vn d.ns
 ri:InRow w vi d.is
 rf:DfRow w vf d.ds
 rh:XRow B 12 EH w vh d.hs
 rl:XRow B 5 EL w vl d.ls
 rg:XRow B 5 EG w vg d.gs
 rp:XRow B 3 EP w vp d.ps
 ra:XRow B 1 ES w va d.ga
 rt:XRow B 1 ES w vt d.tk
 fn:Fr B vn
 fi:Fr B vi
 ff:Fr B vf
theorem WR.kp {B:Nat}{w l:World}{h i f c e g j b k:Value}{d:Wd}(R:WR B w h i f c e g j b k d)(a:Kp B w l):WR B l h i f c e g j b k d :=
 ⟨R.rn.kp R.fn a,R.ri.kp R.fi a,R.rf.kp R.ff a,R.rh.kp stbH a,R.rl.kp stbL a,R.rg.kp stbG a,R.rp.kp stbP a,R.ra.kp stbS a,R.rt.kp stbS a,R.fn,R.fi,R.ff⟩
theorem WR.below {B:Nat}{w k:World}{g h e b c f i a j:Value}{d:Wd}(R:WR B w g h e b c f i a j d)(l:Below w.heap.size w k):WR B k g h e b c f i a j d:=R.kp (Kp.of_below l)
theorem WR.form {B:Nat}{w:World}{i j g e f h k c l:Value}{d:Wd}(R:WR B w i j g e f h k c l d):(∃ b a,i=.slice b d.ns.length a)/\(∃ b a,j=.slice b d.is.length a)/\(∃ b a,g=.slice b d.ds.length a)/\(∃ b a,e=.slice b d.hs.length a)/\(∃ b a,f=.slice b d.ls.length a)/\(∃ b a,h=.slice b d.gs.length a)/\(∃ b a,k=.slice b d.ps.length a)/\(∃ b a,c=.slice b d.ga.length a)/\(∃ b a,l=.slice b d.tk.length a) :=
 ⟨R.rn.small8,R.ri.small,R.rf.small,R.rh.small,R.rl.small,R.rg.small,R.rp.small,R.ra.small,R.rt.small⟩
structure SmW (d:Wd):Prop where
 hn:d.ns.length <= 1048576
 hi:d.is.length <= 1048576
 hf:d.ds.length <= 1048576
 hh:d.hs.length <= 1048576/\∀ x ∈ d.hs,SmH x
 hl:d.ls.length <= 1048576/\∀ x ∈ d.ls,SmL x
 hg:d.gs.length <= 1048576/\∀ x ∈ d.gs,SmG x
 hp:d.ps.length <= 1048576/\∀ x ∈ d.ps,SmP x
 ha:d.ga.length <= 1048576/\∀ x ∈ d.ga,SmS x
 ht:d.tk.length <= 1048576/\∀ x ∈ d.tk,SmS x
theorem Zni:(Tryz.prog.info? 50).map (·.size)=some 11:=by kernel_rfl
theorem ZmW:(Tryz.prog.info? 35).map (·.size)=some 11:=by kernel_rfl
theorem ZmP:(Tryz.prog.info? 44).map (·.size)=some 3:=by kernel_rfl
theorem ZmN:(Tryz.prog.info? 28).map (·.size)=some 3:=by kernel_rfl
theorem Zgn (S vi Y X vl Z vp W vt:Value)(d:Wd)(B:Nat)(w:World)(R:WR B w S vi Y X vl Z vp W vt d) :
  Calls Tryz.prog 4 #[.agg #[S,vi,Y,.int .i64 d.pl,X,vl,Z,vp,.int .i64 d.nx,W,vt],.int .i64 1048576] w fun e w'=>∃ r:Int,e=.returned (.int .i64 r) /\ -1 <= r/\r <= 1048576/\(0 <= r -> SmW d)/\Below w.heap.size w w':=by
 obtain ⟨⟨v,o,rfl⟩,⟨j,p,rfl⟩,⟨k,m,rfl⟩,⟨y,z,rfl⟩,⟨i,t,rfl⟩,⟨n,A,rfl⟩,⟨x,l,rfl⟩,⟨q,u,rfl⟩,⟨g,s,rfl⟩⟩:=R.form
 have a:Below w.heap.size w (w.alloc (Obj.cells #[.slice v d.ns.length o,.slice j d.is.length p,.slice k d.ds.length m,.int .i64 d.pl,.slice y d.hs.length z,.slice i d.ls.length t,.slice n d.gs.length A,.slice x d.ps.length l,.int .i64 d.nx,.slice q d.ga.length u,.slice g d.tk.length s] 35)):=(Below.refl _ _).alloc (Nat.le_refl _) _
 have c:(w.alloc (Obj.cells #[.slice v d.ns.length o,.slice j d.is.length p,.slice k d.ds.length m,.int .i64 d.pl,.slice y d.hs.length z,.slice i d.ls.length t,.slice n d.gs.length A,.slice x d.ps.length l,.int .i64 d.nx,.slice q d.ga.length u,.slice g d.tk.length s] 35)).heap[w.heap.size]? = some (Obj.cells #[.slice v d.ns.length o,.slice j d.is.length p,.slice k d.ds.length m,.int .i64 d.pl,.slice y d.hs.length z,.slice i d.ls.length t,.slice n d.gs.length A,.slice x d.ps.length l,.int .i64 d.nx,.slice q d.ga.length u,.slice g d.tk.length s] 35):=heap_alloc_new _ _
 go_enter Tryz.func4,Tryz.ntmps4
 go_wp2_with (refine Zam rfl 28 _ rfl w.heap.size 0 rfl _ 35 #[.slice v d.ns.length o,.slice j d.is.length p,.slice k d.ds.length m] _ c rfl Tryz.underlying28 rfl ZmN ?_)
 refine (Zh3 _ _ _ d.ns d.is d.ds _ (R.rn.below a) (R.ri.below a) (R.rf.below a)).mono ?_
 rintro e w0 ⟨K,rfl,h0,h1,E,b⟩
 replace c:=(bb c b)
 replace a:=a.trans (b.mono a.size)
 clear b
 by_cases C:K < 0
 ·have D:Hid (K = -1):=by unfold Hid;omega
  go_wp2
  go_ret
  exact ⟨-1,rfl,by omega,by omega,fun h=>by omega,a⟩
 have E:=E (by omega)
 have f:w0.cell? ⟨w.heap.size,0+4,none⟩=some (.slice y d.hs.length z):=cell_of_row w0 _ 4 _ _ _ c
 go_wp2_with fail
 refine (Zjr _ d.hs B K _ (R.rh.below stbH a) (by omega) (by omega)).mono ?_
 rintro e V ⟨G,rfl,ab,al,Q,b⟩
 replace c:=(bb c b)
 replace a:=a.trans (b.mono a.size)
 clear b f
 by_cases C:G < 0
 ·have D:Hid (G = -1):=by unfold Hid;omega
  go_wp2
  go_ret
  exact ⟨-1,rfl,by omega,by omega,fun h=>by omega,a⟩
 have Q:=Q (by omega)
 have f:V.cell? ⟨w.heap.size,0+5,none⟩=some (.slice i d.ls.length t):=cell_of_row V _ 5 _ _ _ c
 go_wp2_with fail
 refine (Zjp _ d.ls B G _ (R.rl.below stbL a) (by omega) (by omega)).mono ?_
 rintro e T ⟨N,rfl,ai,ac,P,b⟩
 replace c:=(bb c b)
 replace a:=a.trans (b.mono a.size)
 clear b f
 by_cases C:N < 0
 ·have D:Hid (N = -1):=by unfold Hid;omega
  go_wp2
  go_ret
  exact ⟨-1,rfl,by omega,by omega,fun h=>by omega,a⟩
 have P:=P (by omega)
 have f:T.cell? ⟨w.heap.size,0+6,none⟩=some (.slice n d.gs.length A):=cell_of_row T _ 6 _ _ _ c
 go_wp2_with fail
 refine (Zi7 _ d.gs B N _ (R.rg.below stbG a) (by omega) (by omega)).mono ?_
 rintro e U ⟨O,rfl,ae,af,F,b⟩
 replace c:=(bb c b)
 replace a:=a.trans (b.mono a.size)
 clear b f
 by_cases C:O < 0
 ·have D:Hid (O = -1):=by unfold Hid;omega
  go_wp2
  go_ret
  exact ⟨-1,rfl,by omega,by omega,fun h=>by omega,a⟩
 have F:=F (by omega)
 have f:U.cell? ⟨w.heap.size,0+7,none⟩=some (.slice x d.ps.length l):=cell_of_row U _ 7 _ _ _ c
 go_wp2_with fail
 refine (Zjm _ d.ps B O _ (R.rp.below stbP a) (by omega) (by omega)).mono ?_
 rintro e w4 ⟨L,rfl,aj,ah,kp,b⟩
 replace c:=(bb c b)
 replace a:=a.trans (b.mono a.size)
 clear b f
 by_cases C:L < 0
 ·have D:Hid (L = -1):=by unfold Hid;omega
  go_wp2
  go_ret
  exact ⟨-1,rfl,by omega,by omega,fun h=>by omega,a⟩
 have kp:=kp (by omega)
 have f:w4.cell? ⟨w.heap.size,0+9,none⟩=some (.slice q d.ga.length u):=cell_of_row w4 _ 9 _ _ _ c
 go_wp2_with fail
 refine (Zfb _ d.ga B L _ (R.ra.below stbS a) (by omega) (by omega)).mono ?_
 rintro e w5 ⟨J,rfl,ak,aa,I,b⟩
 replace c:=(bb c b)
 replace a:=a.trans (b.mono a.size)
 clear b f
 by_cases C:J < 0
 ·have D:Hid (J = -1):=by unfold Hid;omega
  go_wp2
  go_ret
  exact ⟨-1,rfl,by omega,by omega,fun h=>by omega,a⟩
 have I:=I (by omega)
 have f:w5.cell? ⟨w.heap.size,0+10,none⟩=some (.slice g d.tk.length s):=cell_of_row w5 _ 10 _ _ _ c
 go_wp2_with fail
 refine (Zfb _ d.tk B J _ (R.rt.below stbS a) (by omega) (by omega)).mono ?_
 rintro e w6 ⟨M,rfl,ad,ag,H,b⟩
 replace c:=(bb c b)
 replace a:=a.trans (b.mono a.size)
 clear b f
 by_cases C:M < 0
 ·have D:Hid (M = -1):=by unfold Hid;omega
  go_wp2
  go_ret
  exact ⟨-1,rfl,by omega,by omega,fun h=>by omega,a⟩
 have H:=H (by omega)
 clear c
 go_wp2
 go_ret
 exact ⟨M,rfl,by omega,by omega,fun _=>⟨E.1,E.2.1,E.2.2,Q,P,F,kp,I,H⟩,a⟩
theorem ZcK (vn vi vf vh vl vg vp va vt:Value)(d:Wd)(B:Nat)(w:World)(R:WR B w vn vi vf vh vl vg vp va vt d)(S:SmW d) :
  Calls Tryz.prog 6 #[.agg #[vn,vi,vf,.int .i64 d.pl,vh,vl,vg,vp,.int .i64 d.nx,va,vt]] w fun e w'=>∃ un ui uf uh ul ug up ua ut,e=.returned (.agg #[un,ui,uf,.int .i64 d.pl,uh,ul,ug,up,.int .i64 d.nx,ua,ut])/\WR w.heap.size w' un ui uf uh ul ug up ua ut d/\Below w.heap.size w w':=by
 have au:=R.rn.szn
 have ar:=R.ri.sz
 have av:=R.rf.sz
 obtain ⟨⟨T,W,rfl⟩,⟨ac,N,rfl⟩,⟨Y,ad,rfl⟩,⟨V,ai,rfl⟩,⟨ab,Q,rfl⟩,⟨aa,ah,rfl⟩,⟨ag,ae,rfl⟩,⟨O,af,rfl⟩,⟨X,P,rfl⟩⟩:=R.form
 have i:Below w.heap.size w (((w.alloc (Obj.cells #[.slice T d.ns.length W,.slice ac d.is.length N,.slice Y d.ds.length ad,.int .i64 d.pl,.slice V d.hs.length ai,.slice ab d.ls.length Q,.slice aa d.gs.length ah,.slice ag d.ps.length ae,.int .i64 d.nx,.slice O d.ga.length af,.slice X d.tk.length P] 35)).alloc (Obj.cells #[.slice none 0 0,.slice none 0 0,.slice none 0 0,.int .i64 0,.slice none 0 0,.slice none 0 0,.slice none 0 0,.slice none 0 0,.int .i64 0,.slice none 0 0,.slice none 0 0] 50)).alloc (Obj.cells #[.slice none 0 0,.slice none 0 0,.slice none 0 0,.int .i64 0,.slice none 0 0,.slice none 0 0,.slice none 0 0,.slice none 0 0,.int .i64 0,.slice none 0 0,.slice none 0 0] 50)):=(((Below.refl _ _).alloc (Nat.le_refl _) _).alloc (by simp) _).alloc (by simp;omega) _
 have j:(((w.alloc (Obj.cells #[.slice T d.ns.length W,.slice ac d.is.length N,.slice Y d.ds.length ad,.int .i64 d.pl,.slice V d.hs.length ai,.slice ab d.ls.length Q,.slice aa d.gs.length ah,.slice ag d.ps.length ae,.int .i64 d.nx,.slice O d.ga.length af,.slice X d.tk.length P] 35)).alloc (Obj.cells #[.slice none 0 0,.slice none 0 0,.slice none 0 0,.int .i64 0,.slice none 0 0,.slice none 0 0,.slice none 0 0,.slice none 0 0,.int .i64 0,.slice none 0 0,.slice none 0 0] 50)).alloc (Obj.cells #[.slice none 0 0,.slice none 0 0,.slice none 0 0,.int .i64 0,.slice none 0 0,.slice none 0 0,.slice none 0 0,.slice none 0 0,.int .i64 0,.slice none 0 0,.slice none 0 0] 50)).heap[w.heap.size]? = some (Obj.cells #[.slice T d.ns.length W,.slice ac d.is.length N,.slice Y d.ds.length ad,.int .i64 d.pl,.slice V d.hs.length ai,.slice ab d.ls.length Q,.slice aa d.gs.length ah,.slice ag d.ps.length ae,.int .i64 d.nx,.slice O d.ga.length af,.slice X d.tk.length P] 35):=(heap_alloc_old _ _ (by simp;omega)).trans ((heap_alloc_old _ _ (by simp)).trans (heap_alloc_new _ _))
 have z:(((w.alloc (Obj.cells #[.slice T d.ns.length W,.slice ac d.is.length N,.slice Y d.ds.length ad,.int .i64 d.pl,.slice V d.hs.length ai,.slice ab d.ls.length Q,.slice aa d.gs.length ah,.slice ag d.ps.length ae,.int .i64 d.nx,.slice O d.ga.length af,.slice X d.tk.length P] 35)).alloc (Obj.cells #[.slice none 0 0,.slice none 0 0,.slice none 0 0,.int .i64 0,.slice none 0 0,.slice none 0 0,.slice none 0 0,.slice none 0 0,.int .i64 0,.slice none 0 0,.slice none 0 0] 50)).alloc (Obj.cells #[.slice none 0 0,.slice none 0 0,.slice none 0 0,.int .i64 0,.slice none 0 0,.slice none 0 0,.slice none 0 0,.slice none 0 0,.int .i64 0,.slice none 0 0,.slice none 0 0] 50)).heap[w.heap.size+1]? = some (Obj.cells #[.slice none 0 0,.slice none 0 0,.slice none 0 0,.int .i64 0,.slice none 0 0,.slice none 0 0,.slice none 0 0,.slice none 0 0,.int .i64 0,.slice none 0 0,.slice none 0 0] 50):=(heap_alloc_old _ _ (by simp)).trans (heap_alloc2_new _ _ _)
 have y:(((w.alloc (Obj.cells #[.slice T d.ns.length W,.slice ac d.is.length N,.slice Y d.ds.length ad,.int .i64 d.pl,.slice V d.hs.length ai,.slice ab d.ls.length Q,.slice aa d.gs.length ah,.slice ag d.ps.length ae,.int .i64 d.nx,.slice O d.ga.length af,.slice X d.tk.length P] 35)).alloc (Obj.cells #[.slice none 0 0,.slice none 0 0,.slice none 0 0,.int .i64 0,.slice none 0 0,.slice none 0 0,.slice none 0 0,.slice none 0 0,.int .i64 0,.slice none 0 0,.slice none 0 0] 50)).alloc (Obj.cells #[.slice none 0 0,.slice none 0 0,.slice none 0 0,.int .i64 0,.slice none 0 0,.slice none 0 0,.slice none 0 0,.slice none 0 0,.int .i64 0,.slice none 0 0,.slice none 0 0] 50)).heap[w.heap.size+2]? = some (Obj.cells #[.slice none 0 0,.slice none 0 0,.slice none 0 0,.int .i64 0,.slice none 0 0,.slice none 0 0,.slice none 0 0,.slice none 0 0,.int .i64 0,.slice none 0 0,.slice none 0 0] 50):=by
  have h:=heap_alloc_new ((w.alloc (Obj.cells #[.slice T d.ns.length W,.slice ac d.is.length N,.slice Y d.ds.length ad,.int .i64 d.pl,.slice V d.hs.length ai,.slice ab d.ls.length Q,.slice aa d.gs.length ah,.slice ag d.ps.length ae,.int .i64 d.nx,.slice O d.ga.length af,.slice X d.tk.length P] 35)).alloc (Obj.cells #[.slice none 0 0,.slice none 0 0,.slice none 0 0,.int .i64 0,.slice none 0 0,.slice none 0 0,.slice none 0 0,.slice none 0 0,.int .i64 0,.slice none 0 0,.slice none 0 0] 50)) (Obj.cells #[.slice none 0 0,.slice none 0 0,.slice none 0 0,.int .i64 0,.slice none 0 0,.slice none 0 0,.slice none 0 0,.slice none 0 0,.int .i64 0,.slice none 0 0,.slice none 0 0] 50)
  simpa using h
 have c:w.heap.size+3 <= (((w.alloc (Obj.cells #[.slice T d.ns.length W,.slice ac d.is.length N,.slice Y d.ds.length ad,.int .i64 d.pl,.slice V d.hs.length ai,.slice ab d.ls.length Q,.slice aa d.gs.length ah,.slice ag d.ps.length ae,.int .i64 d.nx,.slice O d.ga.length af,.slice X d.tk.length P] 35)).alloc (Obj.cells #[.slice none 0 0,.slice none 0 0,.slice none 0 0,.int .i64 0,.slice none 0 0,.slice none 0 0,.slice none 0 0,.slice none 0 0,.int .i64 0,.slice none 0 0,.slice none 0 0] 50)).alloc (Obj.cells #[.slice none 0 0,.slice none 0 0,.slice none 0 0,.int .i64 0,.slice none 0 0,.slice none 0 0,.slice none 0 0,.slice none 0 0,.int .i64 0,.slice none 0 0,.slice none 0 0] 50)).heap.size:=by simp
 go_enter Tryz.func6,Tryz.ntmps6
 go_wp2_with (refine Zam rfl 28 _ rfl w.heap.size 0 rfl _ 35 #[.slice T d.ns.length W,.slice ac d.is.length N,.slice Y d.ds.length ad] _ j rfl Tryz.underlying28 rfl ZmN ?_)
 refine (ZhA _ _ _ d.ns d.is d.ds _ (R.rn.below i) (R.ri.below i) (R.rf.below i) (by have:=S.hn;omega) (by have:=S.hi;omega) (by have:=S.hf;omega)).mono ?_
 rintro e w1 ⟨v1,v2,v3,rfl,O1,O2,O3,f⟩
 replace j:=(bb j f)
 replace z:=(bb z f)
 replace y:=(bb y f)
 replace i:=i.trans (f.mono i.size)
 have l:=f.size
 obtain ⟨m,n,rfl⟩:=Zag O1
 obtain ⟨p,o,rfl⟩:=Zag O2
 obtain ⟨q,k,rfl⟩:=Zag O3
 have U:=(Fr.of_own O1).mono c
 have M:=(Fr.of_own O2).mono c
 have Z:=(Fr.of_own O3).mono c
 have u:=NRow.of_own O1 (by have:=S.hn;omega) au
 have x:=InRow.of_own O2 (by have:=S.hi;omega) ar
 have v:=DfRow.of_own O3 (by have:=S.hf;omega) av
 clear O1 O2 O3
 replace c:w.heap.size+3 <= w1.heap.size:=Nat.le_trans c l
 clear f l
 go_wp2_with (refine ZaL rfl 44 _ _ rfl (w.heap.size+2) 0 #[.slice m d.ns.length n,.slice p d.is.length o,.slice q d.ds.length k] rfl rfl 50 #[.slice none 0 0,.slice none 0 0,.slice none 0 0,.int .i64 0,.slice none 0 0,.slice none 0 0,.slice none 0 0,.slice none 0 0,.int .i64 0,.slice none 0 0,.slice none 0 0] #[.slice m d.ns.length n,.slice p d.is.length o,.slice q d.ds.length k,.int .i64 0,.slice none 0 0,.slice none 0 0,.slice none 0 0,.slice none 0 0,.int .i64 0,.slice none 0 0,.slice none 0 0] y (by simp) ZmP (by simp [Value.oneCell']) rfl ?_)
 intro u1 G g s a
 have b:Kp (w.heap.size+3) _ u1:=Kp.of_oth (by omega) a (by omega)
 replace u:=u.kp U b
 replace x:=x.kp M b
 replace v:=v.kp Z b
 replace j:=(a w.heap.size (by omega)).trans j
 replace z:=(a (w.heap.size+1) (by omega)).trans z
 replace i:=i.trans (g.mono (by omega))
 replace y:=G
 replace c:w.heap.size+3 <= u1.heap.size:=by omega
 clear G g s a b
 have kc:u1.cell? ⟨w.heap.size,0+3,none⟩=some (.int .i64 d.pl):=cell_of_row u1 _ 3 _ _ _ j
 go_wp2_with (refine Zaa rfl 3 _ _ rfl (w.heap.size+2) 3 (.int .i64 d.pl) #[.int .i64 d.pl] rfl rfl rfl rfl 50 #[.slice m d.ns.length n,.slice p d.is.length o,.slice q d.ds.length k,.int .i64 0,.slice none 0 0,.slice none 0 0,.slice none 0 0,.slice none 0 0,.int .i64 0,.slice none 0 0,.slice none 0 0] #[.slice m d.ns.length n,.slice p d.is.length o,.slice q d.ds.length k,.int .i64 d.pl,.slice none 0 0,.slice none 0 0,.slice none 0 0,.slice none 0 0,.int .i64 0,.slice none 0 0,.slice none 0 0] y (by simp) (by kernel_rfl) rfl ?_)
 intro u2 G g s a
 have b:Kp (w.heap.size+3) _ u2:=Kp.of_oth (by omega) a (by omega)
 replace u:=u.kp U b
 replace x:=x.kp M b
 replace v:=v.kp Z b
 replace j:=(a w.heap.size (by omega)).trans j
 replace z:=(a (w.heap.size+1) (by omega)).trans z
 replace i:=i.trans (g.mono (by omega))
 replace y:=G
 replace c:w.heap.size+3 <= u2.heap.size:=by omega
 clear G g s a b kc
 have kc:u2.cell? ⟨w.heap.size,0+4,none⟩=some (.slice V d.hs.length ai):=cell_of_row u2 _ 4 _ _ _ j
 go_wp2_with fail
 refine (ZiH _ d.hs B _ (R.rh.below stbH i) (by have:=S.hh.1;omega) S.hh.2).mono ?_
 rintro e w3 ⟨vh,rfl,D,f⟩
 have b:Kp (w.heap.size+3) _ w3:=Kp.of_below f
 replace u:=u.kp U b
 replace x:=x.kp M b
 replace v:=v.kp Z b
 replace j:=(bb j f)
 replace z:=(bb z f)
 replace y:=(bb y f)
 replace i:=i.trans (f.mono i.size)
 have l:=f.size
 obtain ⟨t,r,rfl⟩:=D.small
 replace D:=(D.mono stbH c)
 replace c:w.heap.size+3 <= w3.heap.size:=Nat.le_trans c l
 clear f b l kc
 go_wp2_with (refine Zaa rfl 45 _ _ rfl (w.heap.size+2) 4 (.slice t d.hs.length r) #[.slice t d.hs.length r] rfl rfl rfl rfl 50 #[.slice m d.ns.length n,.slice p d.is.length o,.slice q d.ds.length k,.int .i64 d.pl,.slice none 0 0,.slice none 0 0,.slice none 0 0,.slice none 0 0,.int .i64 0,.slice none 0 0,.slice none 0 0] #[.slice m d.ns.length n,.slice p d.is.length o,.slice q d.ds.length k,.int .i64 d.pl,.slice t d.hs.length r,.slice none 0 0,.slice none 0 0,.slice none 0 0,.int .i64 0,.slice none 0 0,.slice none 0 0] y (by simp) (by kernel_rfl) rfl ?_)
 intro u3 G g s a
 have b:Kp (w.heap.size+3) _ u3:=Kp.of_oth (by omega) a (by omega)
 replace u:=u.kp U b
 replace x:=x.kp M b
 replace v:=v.kp Z b
 replace D:=D.kp stbH b
 replace j:=(a w.heap.size (by omega)).trans j
 replace z:=(a (w.heap.size+1) (by omega)).trans z
 replace i:=i.trans (g.mono (by omega))
 replace y:=G
 replace c:w.heap.size+3 <= u3.heap.size:=by omega
 clear G g s a b
 have kc:u3.cell? ⟨w.heap.size,0+5,none⟩=some (.slice ab d.ls.length Q):=cell_of_row u3 _ 5 _ _ _ j
 go_wp2_with fail
 refine (ZiG _ d.ls B _ (R.rl.below stbL i) (by have:=S.hl.1;omega) S.hl.2).mono ?_
 rintro e w4 ⟨vl,rfl,H,f⟩
 have b:Kp (w.heap.size+3) _ w4:=Kp.of_below f
 replace u:=u.kp U b
 replace x:=x.kp M b
 replace v:=v.kp Z b
 replace D:=D.kp stbH b
 replace j:=(bb j f)
 replace z:=(bb z f)
 replace y:=(bb y f)
 replace i:=i.trans (f.mono i.size)
 have l:=f.size
 obtain ⟨A,C,rfl⟩:=H.small
 replace H:=(H.mono stbL c)
 replace c:w.heap.size+3 <= w4.heap.size:=Nat.le_trans c l
 clear f b l kc
 go_wp2_with (refine Zaa rfl 46 _ _ rfl (w.heap.size+2) 5 (.slice A d.ls.length C) #[.slice A d.ls.length C] rfl rfl rfl rfl 50 #[.slice m d.ns.length n,.slice p d.is.length o,.slice q d.ds.length k,.int .i64 d.pl,.slice t d.hs.length r,.slice none 0 0,.slice none 0 0,.slice none 0 0,.int .i64 0,.slice none 0 0,.slice none 0 0] #[.slice m d.ns.length n,.slice p d.is.length o,.slice q d.ds.length k,.int .i64 d.pl,.slice t d.hs.length r,.slice A d.ls.length C,.slice none 0 0,.slice none 0 0,.int .i64 0,.slice none 0 0,.slice none 0 0] y (by simp) (by kernel_rfl) rfl ?_)
 intro u4 G g s a
 have b:Kp (w.heap.size+3) _ u4:=Kp.of_oth (by omega) a (by omega)
 replace u:=u.kp U b
 replace x:=x.kp M b
 replace v:=v.kp Z b
 replace D:=D.kp stbH b
 replace H:=H.kp stbL b
 replace j:=(a w.heap.size (by omega)).trans j
 replace z:=(a (w.heap.size+1) (by omega)).trans z
 replace i:=i.trans (g.mono (by omega))
 replace y:=G
 replace c:w.heap.size+3 <= u4.heap.size:=by omega
 clear G g s a b
 have kc:u4.cell? ⟨w.heap.size,0+6,none⟩=some (.slice aa d.gs.length ah):=cell_of_row u4 _ 6 _ _ _ j
 go_wp2_with fail
 refine (Zjh _ d.gs B _ (R.rg.below stbG i) (by have:=S.hg.1;omega) S.hg.2).mono ?_
 rintro e w5 ⟨vg,rfl,K,f⟩
 have b:Kp (w.heap.size+3) _ w5:=Kp.of_below f
 replace u:=u.kp U b
 replace x:=x.kp M b
 replace v:=v.kp Z b
 replace D:=D.kp stbH b
 replace H:=H.kp stbL b
 replace j:=(bb j f)
 replace z:=(bb z f)
 replace y:=(bb y f)
 replace i:=i.trans (f.mono i.size)
 have l:=f.size
 obtain ⟨F,E,rfl⟩:=K.small
 replace K:=(K.mono stbG c)
 replace c:w.heap.size+3 <= w5.heap.size:=Nat.le_trans c l
 clear f b l kc
 go_wp2_with (refine Zaa rfl 47 _ _ rfl (w.heap.size+2) 6 (.slice F d.gs.length E) #[.slice F d.gs.length E] rfl rfl rfl rfl 50 #[.slice m d.ns.length n,.slice p d.is.length o,.slice q d.ds.length k,.int .i64 d.pl,.slice t d.hs.length r,.slice A d.ls.length C,.slice none 0 0,.slice none 0 0,.int .i64 0,.slice none 0 0,.slice none 0 0] #[.slice m d.ns.length n,.slice p d.is.length o,.slice q d.ds.length k,.int .i64 d.pl,.slice t d.hs.length r,.slice A d.ls.length C,.slice F d.gs.length E,.slice none 0 0,.int .i64 0,.slice none 0 0,.slice none 0 0] y (by simp) (by kernel_rfl) rfl ?_)
 intro u5 G g s a
 have b:Kp (w.heap.size+3) _ u5:=Kp.of_oth (by omega) a (by omega)
 replace u:=u.kp U b
 replace x:=x.kp M b
 replace v:=v.kp Z b
 replace D:=D.kp stbH b
 replace H:=H.kp stbL b
 replace K:=K.kp stbG b
 replace j:=(a w.heap.size (by omega)).trans j
 replace z:=(a (w.heap.size+1) (by omega)).trans z
 replace i:=i.trans (g.mono (by omega))
 replace y:=G
 replace c:w.heap.size+3 <= u5.heap.size:=by omega
 clear G g s a b
 have kc:u5.cell? ⟨w.heap.size,0+7,none⟩=some (.slice ag d.ps.length ae):=cell_of_row u5 _ 7 _ _ _ j
 go_wp2_with fail
 refine (ZiI _ d.ps B _ (R.rp.below stbP i) (by have:=S.hp.1;omega) S.hp.2).mono ?_
 rintro e w6 ⟨vp,rfl,L,f⟩
 have b:Kp (w.heap.size+3) _ w6:=Kp.of_below f
 replace u:=u.kp U b
 replace x:=x.kp M b
 replace v:=v.kp Z b
 replace D:=D.kp stbH b
 replace H:=H.kp stbL b
 replace K:=K.kp stbG b
 replace j:=(bb j f)
 replace z:=(bb z f)
 replace y:=(bb y f)
 replace i:=i.trans (f.mono i.size)
 have l:=f.size
 obtain ⟨J,I,rfl⟩:=L.small
 replace L:=(L.mono stbP c)
 replace c:w.heap.size+3 <= w6.heap.size:=Nat.le_trans c l
 clear f b l kc
 go_wp2_with (refine Zaa rfl 48 _ _ rfl (w.heap.size+2) 7 (.slice J d.ps.length I) #[.slice J d.ps.length I] rfl rfl rfl rfl 50 #[.slice m d.ns.length n,.slice p d.is.length o,.slice q d.ds.length k,.int .i64 d.pl,.slice t d.hs.length r,.slice A d.ls.length C,.slice F d.gs.length E,.slice none 0 0,.int .i64 0,.slice none 0 0,.slice none 0 0] #[.slice m d.ns.length n,.slice p d.is.length o,.slice q d.ds.length k,.int .i64 d.pl,.slice t d.hs.length r,.slice A d.ls.length C,.slice F d.gs.length E,.slice J d.ps.length I,.int .i64 0,.slice none 0 0,.slice none 0 0] y (by simp) (by kernel_rfl) rfl ?_)
 intro u6 G g s a
 have b:Kp (w.heap.size+3) _ u6:=Kp.of_oth (by omega) a (by omega)
 replace u:=u.kp U b
 replace x:=x.kp M b
 replace v:=v.kp Z b
 replace D:=D.kp stbH b
 replace H:=H.kp stbL b
 replace K:=K.kp stbG b
 replace L:=L.kp stbP b
 replace j:=(a w.heap.size (by omega)).trans j
 replace z:=(a (w.heap.size+1) (by omega)).trans z
 replace i:=i.trans (g.mono (by omega))
 replace y:=G
 replace c:w.heap.size+3 <= u6.heap.size:=by omega
 clear G g s a b
 have kc:u6.cell? ⟨w.heap.size,0+8,none⟩=some (.int .i64 d.nx):=cell_of_row u6 _ 8 _ _ _ j
 go_wp2_with (refine Zaa rfl 3 _ _ rfl (w.heap.size+2) 8 (.int .i64 d.nx) #[.int .i64 d.nx] rfl rfl rfl rfl 50 #[.slice m d.ns.length n,.slice p d.is.length o,.slice q d.ds.length k,.int .i64 d.pl,.slice t d.hs.length r,.slice A d.ls.length C,.slice F d.gs.length E,.slice J d.ps.length I,.int .i64 0,.slice none 0 0,.slice none 0 0] #[.slice m d.ns.length n,.slice p d.is.length o,.slice q d.ds.length k,.int .i64 d.pl,.slice t d.hs.length r,.slice A d.ls.length C,.slice F d.gs.length E,.slice J d.ps.length I,.int .i64 d.nx,.slice none 0 0,.slice none 0 0] y (by simp) (by kernel_rfl) rfl ?_)
 intro u7 G g s a
 have b:Kp (w.heap.size+3) _ u7:=Kp.of_oth (by omega) a (by omega)
 replace u:=u.kp U b
 replace x:=x.kp M b
 replace v:=v.kp Z b
 replace D:=D.kp stbH b
 replace H:=H.kp stbL b
 replace K:=K.kp stbG b
 replace L:=L.kp stbP b
 replace j:=(a w.heap.size (by omega)).trans j
 replace z:=(a (w.heap.size+1) (by omega)).trans z
 replace i:=i.trans (g.mono (by omega))
 replace y:=G
 replace c:w.heap.size+3 <= u7.heap.size:=by omega
 clear G g s a b kc
 have kc:u7.cell? ⟨w.heap.size,0+9,none⟩=some (.slice O d.ga.length af):=cell_of_row u7 _ 9 _ _ _ j
 go_wp2_with fail
 refine (ZfQ _ d.ga B _ (R.ra.below stbS i) (by have:=S.ha.1;omega) S.ha.2).mono ?_
 rintro e w8 ⟨va,rfl,Xa,f⟩
 have b:Kp (w.heap.size+3) _ w8:=Kp.of_below f
 replace u:=u.kp U b
 replace x:=x.kp M b
 replace v:=v.kp Z b
 replace D:=D.kp stbH b
 replace H:=H.kp stbL b
 replace K:=K.kp stbG b
 replace L:=L.kp stbP b
 replace j:=(bb j f)
 replace z:=(bb z f)
 replace y:=(bb y f)
 replace i:=i.trans (f.mono i.size)
 have l:=f.size
 obtain ⟨ak,aj,rfl⟩:=Xa.small
 replace Xa:=(Xa.mono stbS c)
 replace c:w.heap.size+3 <= w8.heap.size:=Nat.le_trans c l
 clear f b l kc
 go_wp2_with (refine Zaa rfl 33 _ _ rfl (w.heap.size+2) 9 (.slice ak d.ga.length aj) #[.slice ak d.ga.length aj] rfl rfl rfl rfl 50 #[.slice m d.ns.length n,.slice p d.is.length o,.slice q d.ds.length k,.int .i64 d.pl,.slice t d.hs.length r,.slice A d.ls.length C,.slice F d.gs.length E,.slice J d.ps.length I,.int .i64 d.nx,.slice none 0 0,.slice none 0 0] #[.slice m d.ns.length n,.slice p d.is.length o,.slice q d.ds.length k,.int .i64 d.pl,.slice t d.hs.length r,.slice A d.ls.length C,.slice F d.gs.length E,.slice J d.ps.length I,.int .i64 d.nx,.slice ak d.ga.length aj,.slice none 0 0] y (by simp) (by kernel_rfl) rfl ?_)
 intro u8 G g s a
 have b:Kp (w.heap.size+3) _ u8:=Kp.of_oth (by omega) a (by omega)
 replace u:=u.kp U b
 replace x:=x.kp M b
 replace v:=v.kp Z b
 replace D:=D.kp stbH b
 replace H:=H.kp stbL b
 replace K:=K.kp stbG b
 replace L:=L.kp stbP b
 replace Xa:=Xa.kp stbS b
 replace j:=(a w.heap.size (by omega)).trans j
 replace z:=(a (w.heap.size+1) (by omega)).trans z
 replace i:=i.trans (g.mono (by omega))
 replace y:=G
 replace c:w.heap.size+3 <= u8.heap.size:=by omega
 clear G g s a b
 have kc:u8.cell? ⟨w.heap.size,0+10,none⟩=some (.slice X d.tk.length P):=cell_of_row u8 _ 10 _ _ _ j
 go_wp2_with fail
 refine (ZfQ _ d.tk B _ (R.rt.below stbS i) (by have:=S.ht.1;omega) S.ht.2).mono ?_
 rintro e w9 ⟨vt,rfl,Xt,f⟩
 have b:Kp (w.heap.size+3) _ w9:=Kp.of_below f
 replace u:=u.kp U b
 replace x:=x.kp M b
 replace v:=v.kp Z b
 replace D:=D.kp stbH b
 replace H:=H.kp stbL b
 replace K:=K.kp stbG b
 replace L:=L.kp stbP b
 replace Xa:=Xa.kp stbS b
 replace j:=(bb j f)
 replace z:=(bb z f)
 replace y:=(bb y f)
 replace i:=i.trans (f.mono i.size)
 have l:=f.size
 obtain ⟨am,al,rfl⟩:=Xt.small
 replace Xt:=(Xt.mono stbS c)
 replace c:w.heap.size+3 <= w9.heap.size:=Nat.le_trans c l
 clear f b l kc
 go_wp2_with (refine Zaa rfl 33 _ _ rfl (w.heap.size+2) 10 (.slice am d.tk.length al) #[.slice am d.tk.length al] rfl rfl rfl rfl 50 #[.slice m d.ns.length n,.slice p d.is.length o,.slice q d.ds.length k,.int .i64 d.pl,.slice t d.hs.length r,.slice A d.ls.length C,.slice F d.gs.length E,.slice J d.ps.length I,.int .i64 d.nx,.slice ak d.ga.length aj,.slice none 0 0] #[.slice m d.ns.length n,.slice p d.is.length o,.slice q d.ds.length k,.int .i64 d.pl,.slice t d.hs.length r,.slice A d.ls.length C,.slice F d.gs.length E,.slice J d.ps.length I,.int .i64 d.nx,.slice ak d.ga.length aj,.slice am d.tk.length al] y (by simp) (by kernel_rfl) rfl ?_)
 intro u9 G g s a
 have b:Kp (w.heap.size+3) _ u9:=Kp.of_oth (by omega) a (by omega)
 replace u:=u.kp U b
 replace x:=x.kp M b
 replace v:=v.kp Z b
 replace D:=D.kp stbH b
 replace H:=H.kp stbL b
 replace K:=K.kp stbG b
 replace L:=L.kp stbP b
 replace Xa:=Xa.kp stbS b
 replace Xt:=Xt.kp stbS b
 replace j:=(a w.heap.size (by omega)).trans j
 replace z:=(a (w.heap.size+1) (by omega)).trans z
 replace i:=i.trans (g.mono (by omega))
 replace y:=G
 replace c:w.heap.size+3 <= u9.heap.size:=by omega
 clear G g s a b
 go_wp2_with (first
  | (refine wpList_load_row rfl 50 _ rfl (w.heap.size+2) rfl 50 #[.slice m d.ns.length n,.slice p d.is.length o,.slice q d.ds.length k,.int .i64 d.pl,.slice t d.hs.length r,.slice A d.ls.length C,.slice F d.gs.length E,.slice J d.ps.length I,.int .i64 d.nx,.slice ak d.ga.length aj,.slice am d.tk.length al] (0,0) _ y Tryz.underlying50 rfl Zni ?_)
  | (refine Zad rfl 50 _ _ rfl (w.heap.size+1) #[.slice m d.ns.length n,.slice p d.is.length o,.slice q d.ds.length k,.int .i64 d.pl,.slice t d.hs.length r,.slice A d.ls.length C,.slice F d.gs.length E,.slice J d.ps.length I,.int .i64 d.nx,.slice ak d.ga.length aj,.slice am d.tk.length al] rfl rfl 50 #[.slice none 0 0,.slice none 0 0,.slice none 0 0,.int .i64 0,.slice none 0 0,.slice none 0 0,.slice none 0 0,.slice none 0 0,.int .i64 0,.slice none 0 0,.slice none 0 0] z Zni rfl (by simp [Value.oneCell']) ?_))
 intro w9 ap aq aw an
 have b:Kp (w.heap.size+3) _ w9:=Kp.of_oth (by omega) an (by omega)
 replace u:=u.kp U b
 replace x:=x.kp M b
 replace v:=v.kp Z b
 replace D:=D.kp stbH b
 replace H:=H.kp stbL b
 replace K:=K.kp stbG b
 replace L:=L.kp stbP b
 replace Xa:=Xa.kp stbS b
 replace Xt:=Xt.kp stbS b
 have ao:Below w.heap.size w w9:=i.trans (aq.mono (by omega))
 go_wp2
 exact bodyPost_ret (results_cell_row rfl _ _ (w.heap.size+1) 50 _ (0,0) _ rfl ap Tryz.underlying50 rfl Zni) rfl ⟨_,_,_,_,_,_,_,_,_,rfl,⟨u,x,v,D.mono stbH (by omega),H.mono stbL (by omega),K.mono stbG (by omega),L.mono stbP (by omega),Xa.mono stbS (by omega),Xt.mono stbS (by omega),U.mono (by omega),M.mono (by omega),Z.mono (by omega)⟩,ao⟩
theorem Zgy (vn vi vf vh vl vg vp va vt un ui uf uh ul ug up ua ut:Value)(d:Wd)(B C:Nat)(w:World)(R:WR B w vn vi vf vh vl vg vp va vt d)(Q:WR C w un ui uf uh ul ug up ua ut d) :
  Calls Tryz.prog 8 #[.agg #[vn,vi,vf,.int .i64 d.pl,vh,vl,vg,vp,.int .i64 d.nx,va,vt],.agg #[un,ui,uf,.int .i64 d.pl,uh,ul,ug,up,.int .i64 d.nx,ua,ut]] w fun e w'=>e=.returned (.bool true)/\Below w.heap.size w w':=by
 obtain ⟨⟨S,A,rfl⟩,⟨n,D,rfl⟩,⟨p,o,rfl⟩,⟨V,y,rfl⟩,⟨m,N,rfl⟩,⟨X,W,rfl⟩,⟨T,q,rfl⟩,⟨H,O,rfl⟩,⟨j,L,rfl⟩⟩:=R.form
 obtain ⟨⟨K,l,rfl⟩,⟨t,r,rfl⟩,⟨J,x,rfl⟩,⟨s,M,rfl⟩,⟨z,k,rfl⟩,⟨P,G,rfl⟩,⟨F,U,rfl⟩,⟨E,v,rfl⟩,⟨I,u,rfl⟩⟩:=Q.form
 obtain ⟨a,c,f⟩:=Zav w (Obj.cells #[.slice S d.ns.length A,.slice n d.is.length D,.slice p d.ds.length o,.int .i64 d.pl,.slice V d.hs.length y,.slice m d.ls.length N,.slice X d.gs.length W,.slice T d.ps.length q,.int .i64 d.nx,.slice H d.ga.length O,.slice j d.tk.length L] 50) (Obj.cells #[.slice K d.ns.length l,.slice t d.is.length r,.slice J d.ds.length x,.int .i64 d.pl,.slice s d.hs.length M,.slice z d.ls.length k,.slice P d.gs.length G,.slice F d.ps.length U,.int .i64 d.nx,.slice E d.ga.length v,.slice I d.tk.length u] 50)
 go_enter Tryz.func8,Tryz.ntmps8
 go_wp2_with (first
  | (refine Zam rfl 44 _ rfl w.heap.size 0 rfl _ 50 #[.slice S d.ns.length A,.slice n d.is.length D,.slice p d.ds.length o] _ c rfl Tryz.underlying44 rfl ZmP ?_)
  | (refine Zam rfl 44 _ rfl (w.heap.size+1) 0 rfl _ 50 #[.slice K d.ns.length l,.slice t d.is.length r,.slice J d.ds.length x] _ f rfl Tryz.underlying44 rfl ZmP ?_))
 refine (Zit _ _ _ _ _ _ d.ns d.is d.ds _ (R.rn.below a) (R.ri.below a) (R.rf.below a) (Q.rn.below a) (Q.ri.below a) (Q.rf.below a)).mono ?_
 rintro e i ⟨rfl,b⟩
 replace c:=(bb c b)
 replace f:=(bb f b)
 replace a:=a.trans (b.mono a.size)
 clear b
 have i1:i.cell? ⟨w.heap.size,0+3,none⟩=some (.int .i64 d.pl):=cell_of_row i _ 3 _ _ _ c
 have i2:i.cell? ⟨w.heap.size+1,0+3,none⟩=some (.int .i64 d.pl):=cell_of_row i _ 3 _ _ _ f
 have g:i.cell? ⟨w.heap.size,0+4,none⟩=some (.slice V d.hs.length y):=cell_of_row i _ 4 _ _ _ c
 have k2:i.cell? ⟨w.heap.size+1,0+4,none⟩=some (.slice s d.hs.length M):=cell_of_row i _ 4 _ _ _ f
 go_wp2_with fail
 refine (Zjd _ _ d.hs B C _ (R.rh.below stbH a) (Q.rh.below stbH a)).mono ?_
 rintro e Z ⟨rfl,b⟩
 replace c:=(bb c b)
 replace f:=(bb f b)
 replace a:=a.trans (b.mono a.size)
 clear b g k2 i1 i2
 have g:Z.cell? ⟨w.heap.size,0+5,none⟩=some (.slice m d.ls.length N):=cell_of_row Z _ 5 _ _ _ c
 have k2:Z.cell? ⟨w.heap.size+1,0+5,none⟩=some (.slice z d.ls.length k):=cell_of_row Z _ 5 _ _ _ f
 go_wp2_with fail
 refine (ZjY _ _ d.ls B C _ (R.rl.below stbL a) (Q.rl.below stbL a)).mono ?_
 rintro e Y ⟨rfl,b⟩
 replace c:=(bb c b)
 replace f:=(bb f b)
 replace a:=a.trans (b.mono a.size)
 clear b g k2
 have g:Y.cell? ⟨w.heap.size,0+6,none⟩=some (.slice X d.gs.length W):=cell_of_row Y _ 6 _ _ _ c
 have k2:Y.cell? ⟨w.heap.size+1,0+6,none⟩=some (.slice P d.gs.length G):=cell_of_row Y _ 6 _ _ _ f
 go_wp2_with fail
 refine (Zjg _ _ d.gs B C _ (R.rg.below stbG a) (Q.rg.below stbG a)).mono ?_
 rintro e w3 ⟨rfl,b⟩
 replace c:=(bb c b)
 replace f:=(bb f b)
 replace a:=a.trans (b.mono a.size)
 clear b g k2
 have g:w3.cell? ⟨w.heap.size,0+7,none⟩=some (.slice T d.ps.length q):=cell_of_row w3 _ 7 _ _ _ c
 have k2:w3.cell? ⟨w.heap.size+1,0+7,none⟩=some (.slice F d.ps.length U):=cell_of_row w3 _ 7 _ _ _ f
 go_wp2_with fail
 refine (ZjK _ _ d.ps B C _ (R.rp.below stbP a) (Q.rp.below stbP a)).mono ?_
 rintro e h ⟨rfl,b⟩
 replace c:=(bb c b)
 replace f:=(bb f b)
 replace a:=a.trans (b.mono a.size)
 clear b g k2
 have i1:h.cell? ⟨w.heap.size,0+8,none⟩=some (.int .i64 d.nx):=cell_of_row h _ 8 _ _ _ c
 have i2:h.cell? ⟨w.heap.size+1,0+8,none⟩=some (.int .i64 d.nx):=cell_of_row h _ 8 _ _ _ f
 have g:h.cell? ⟨w.heap.size,0+9,none⟩=some (.slice H d.ga.length O):=cell_of_row h _ 9 _ _ _ c
 have k2:h.cell? ⟨w.heap.size+1,0+9,none⟩=some (.slice E d.ga.length v):=cell_of_row h _ 9 _ _ _ f
 go_wp2_with fail
 refine (ZfH _ _ d.ga B C _ (R.ra.below stbS a) (Q.ra.below stbS a)).mono ?_
 rintro e w5 ⟨rfl,b⟩
 replace c:=(bb c b)
 replace f:=(bb f b)
 replace a:=a.trans (b.mono a.size)
 clear b g k2 i1 i2
 have g:w5.cell? ⟨w.heap.size,0+10,none⟩=some (.slice j d.tk.length L):=cell_of_row w5 _ 10 _ _ _ c
 have k2:w5.cell? ⟨w.heap.size+1,0+10,none⟩=some (.slice I d.tk.length u):=cell_of_row w5 _ 10 _ _ _ f
 go_wp2_with fail
 refine (ZfH _ _ d.tk B C _ (R.rt.below stbS a) (Q.rt.below stbS a)).mono ?_
 rintro e w6 ⟨rfl,b⟩
 replace c:=(bb c b)
 replace f:=(bb f b)
 replace a:=a.trans (b.mono a.size)
 clear b g k2
 clear c f
 go_wp2
 go_ret
 exact ⟨rfl,a⟩
def Zlx:List Hm -> Int -> Nat -> Int
 | [],_,_=>-1
 | h :: hs,p,i=>if h.i == p then i else Zlx hs p (i+1)
theorem WR.mono {B C:Nat}{w:World}{g i e b c f j a k:Value}{d:Wd}(R:WR B w g i e b c f j a k d)(h:C <= B):WR C w g i e b c f j a k d :=
 ⟨R.rn,R.ri,R.rf,R.rh.mono stbH h,R.rl.mono stbL h,R.rg.mono stbG h,R.rp.mono stbP h,R.ra.mono stbS h,R.rt.mono stbS h,R.fn.mono h,R.fi.mono h,R.ff.mono h⟩
def movN (ns:List Nd)(is:List In)(ds:List Df)(s:ByteArray):Int :=
 match mrd (sb s) with
 | none=>0
 | some (k,_,t)=>if k=2 then (pdT (pdR ns is ds (sb t))).1 else 0
def movB (ns:List Nd)(is:List In)(ds:List Df)(p:Int)(s:ByteArray):Bool:=decide (0 < p) && (movN ns is ds s == p)
theorem ZfL {ns:List Nd}{is:List In}{ds:List Df}{s:ByteArray}(h:mrd (sb s)=none):movN ns is ds s=0:=by unfold movN;rw [h]
theorem Zd8 {ns:List Nd}{is:List In}{ds:List Df}{s:ByteArray}{k p:Int}{t:ByteArray}(h:mrd (sb s)=some (k,p,t))(a:k ≠ 2):movN ns is ds s=0:=by unfold movN;rw [h];exact if_neg a
theorem Zfd {ns:List Nd}{is:List In}{ds:List Df}{s:ByteArray}{p:Int}{t:ByteArray}(h:mrd (sb s)=some (2,p,t)):movN ns is ds s=(pdT (pdR ns is ds (sb t))).1:=by unfold movN;rw [h];exact if_pos rfl
theorem Zgg {ns:List Nd}{is:List In}{ds:List Df}{zs:List Int}{I:Int}{X:List Nd}{M:Mc}{f e:List ByteArray}{ok:Bool}(h:pdT (pdR ns is ds zs)=(I,X,M,f,e,ok)):(ok=true -> 1 <= I)/\(ok=false -> I=0):=by
 cases d:pdR ns is ds zs with
 | none =>
  rw [d] at h
  simp only [pdT,Prod.mk.injEq] at h
  obtain ⟨rfl,_,_,_,_,rfl⟩:=h
  exact ⟨(fun h=>by cases h),fun _=>rfl⟩
 | some q =>
  have a:=d
  rw [d] at h
  obtain ⟨i,m,b,o⟩:=q
  simp only [pdT,Prod.mk.injEq] at h
  obtain ⟨rfl,_,_,_,_,rfl⟩:=h
  refine ⟨fun _=>?_,(fun h=>by cases h)⟩
  unfold pdR at a
  simp only [Option.bind_eq_some_iff] at a
  obtain ⟨p,_,t,_,j,_,g,_,a⟩:=a
  split at a
  ·rw [Option.bind_eq_some_iff] at a
   obtain ⟨r,_,a⟩:=a
   split at a
   ·rename_i c
    simp only [Option.some.injEq,Prod.mk.injEq] at a
    obtain ⟨rfl,_⟩:=a
    unfold Zbr pidB at c
    simp at c
    omega
   ·cases a
  ·cases a
theorem Zg8 {zs:List Int}{k p:Int}{t:ByteArray}(h:mrd zs=some (k,p,t)):t.size <= zs.length:=by
 have b:∀ {g f a:Int} {q:Int × Int × ByteArray},mEnd zs g f a=some q -> q.2.2.size <= zs.length:=by
  intro g f a q d
  unfold mEnd at d
  rw [Option.bind_eq_some_iff] at d
  obtain ⟨r,c,e⟩:=d
  split at e
  ·cases e
   unfold rt at c
   split at c
   ·cases c
    exact ZcD zs a
   ·cases c
  ·cases e
 unfold mrd at h
 rw [Option.bind_eq_some_iff] at h
 obtain ⟨r,_,h⟩:=h
 split at h
 ·rw [Option.bind_eq_some_iff] at h
  obtain ⟨f,_,h⟩:=h
  exact b h
 ·split at h
  ·exact b h
  ·cases h
def Zmf (f:ByteArray -> Bool):List ByteArray -> Nat -> Int
 | [],_=>-1
 | s :: ss,i=>if f s then i else Zmf f ss (i+1)
def onW (d:Wd)(p:Int)(i:Nat):Bool:=((d.ga.getD i []).drop ((d.ls[i]?.map Lk.got).getD 0).toNat).any (movB d.ns d.is d.ds p)
def whGo (f:Nat -> Bool)(pl:Int):Nat -> Nat -> Int
 | 0,_=>-1
 | n+1,i=>if f i then (i:Int) % pl else whGo f pl n (i+1)
def whL (d:Wd)(p:Int):Int:=if 0 < d.pl then whGo (onW d p) d.pl (min d.ls.length d.ga.length) 0 else -1
def whR (d:Wd)(p:Int):Int:=if 0 <= Zlx d.hs p 0 then (d.hs[(Zlx d.hs p 0).toNat]?.map Hm.pl).getD 0 else whL d p
theorem ZcU (b:Nat)(v:Value)(zs:List Int)(a:Int)(ok:Bool)(w:World)(R:Row w v zs)(h:C8 w b v a ok)(t : -9223372036854775808 <= a)(o:a <= 9223372036854775807) :
  Calls Tryz.prog 82 #[.pointer (some ⟨b,0,none⟩)] w fun e l=>e=.returned (.string (txt8 zs a ok).1)/\C8 l b v (txt8 zs a ok).2.1 (txt8 zs a ok).2.2/\w.grownBy l (some b):=by
 have B:=R
 obtain ⟨r,i,rfl,_⟩:=B
 unfold C8 at h
 have c0:w.cell? ⟨b,0,none⟩=some (.slice r zs.length i):=cell_of_row _ _ 0 _ _ _ h
 have c1:w.cell? ⟨b,1,none⟩=some (.int .i64 a):=cell_of_row _ _ 1 _ _ _ h
 have c2:w.cell? ⟨b,2,none⟩=some (.bool ok):=cell_of_row _ _ 2 _ _ _ h
 have x:w.frozen? ⟨b,1,none⟩=false:=frozen_of_row _ _ 1 _ _ h
 have z:w.frozen? ⟨b,2,none⟩=false:=frozen_of_row _ _ 2 _ _ h
 obtain ⟨g,k⟩:∃ g,Hid (gT zs a=g):=⟨_,rfl⟩
 obtain ⟨q,n,s⟩:=g
 have y:∀ W:World,Row W (.slice r zs.length i) zs -> Calls Tryz.prog 118 #[.slice r zs.length i,.int .i64 a] W fun e l=>e=.returned (.tuple #[.string q,.int .i64 n,.bool s])/\l=W:=fun W A=>by
  have:=Zeg _ zs a W A t o
  rw [k.out] at this
  exact this
 have j:Hid (txt8 zs a ok=if ok && s then (q,n,true) else (⟨#[]⟩,a,false)):=by unfold Hid txt8;rw [k.out]
 have u:∀ m,Below w.heap.size w (w.drewN m):=fun m=>⟨rfl,rfl,rfl,Nat.le_refl _,fun _ _=>rfl⟩
 go_enter Tryz.func82,Tryz.ntmps82
 go_wp2_with fail
 go_quiet (first | (go_at_call 118;refine Calls.quiet_of_same (y _ R)))
 all_goals
  have lt:=(bl h)
  have f:=((u nq).block _ lt).trans h
  have p:w.grownBy (w.drewN nq) (some b):=⟨rfl,rfl,rfl,Nat.le_refl _,fun _ _ _=>rfl⟩
  clear c0 c1 c2 x z u y
  generalize w.drewN nq=d at *
  have c1:d.cell? ⟨b,1,none⟩=some (.int .i64 a):=cell_of_row _ _ 1 _ _ _ f
  have c2:d.cell? ⟨b,2,none⟩=some (.bool ok):=cell_of_row _ _ 2 _ _ _ f
  have x:d.frozen? ⟨b,1,none⟩=false:=frozen_of_row _ _ 1 _ _ f
  have z:d.frozen? ⟨b,2,none⟩=false:=frozen_of_row _ _ 2 _ _ f
  cases s with
  | false =>
   have c:Hid (txt8 zs a ok=(⟨#[]⟩,a,false)):=by unfold Hid;rw [j.out,Bool.and_false];rfl
   clear j k
   go_wp2
   go_ret
   rw [c.out]
   exact ⟨rfl,heap_setCell_same d b 2 _ _ (.bool false) f,Zaj p (Zan d b 2 _)⟩
  | true =>
   cases ok with
   | false =>
    have c:Hid (txt8 zs a false=(⟨#[]⟩,a,false)):=j.out
    clear j k
    go_wp2
    go_ret
    rw [c.out]
    exact ⟨rfl,heap_setCell_same d b 2 _ _ (.bool false) f,Zaj p (Zan d b 2 _)⟩
   | true =>
    have c:Hid (txt8 zs a true=(q,n,true)):=j.out
    clear j k
    go_wp2
    go_ret
    rw [c.out]
    exact ⟨rfl,heap_setCell_same d b 1 _ _ (.int .i64 n) f,Zaj p (Zan d b 1 _)⟩
end Go.Proofs.YtfeodlbpnghakaaGreatDoor
