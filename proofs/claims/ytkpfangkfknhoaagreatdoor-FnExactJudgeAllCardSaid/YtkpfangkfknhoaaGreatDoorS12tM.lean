/-
  Texts that stood by themselves, laid into one.
-/
import Derived.Test.YtkpfangkfknhoaaGreatDoorWSsM
import Derived.Test.YtkpfangkfknhoaaGreatDoorSInstrM
import Derived.Test.YtkpfangkfknhoaaGreatDoorXRM
import Derived.Test.YtkpfangkfknhoaaGreatDoorSR8M
import Derived.Test.YtkpfangkfknhoaaGreatDoorSGTextM
import Derived.Test.YtkpfangkfknhoaaGreatDoorMcTM
/-
  Worlds: what one is, and the contracts of the laws' szWorld, toWorld, eqWorld. No condition.
-/
set_option maxRecDepth 100000
set_option maxHeartbeats 12800000
namespace Go.Proofs.YtkpfangkfknhoaaGreatDoor
open Go.Proofs.Tryz
open Go.RowKit
structure Wd where
 ns:List Nd
 is:List In
 ds:List Df
 pl:Int
 hs:List Hm
 ls:List Lk
 gs:List Gm
 ps:List Pd
 nx:Int
 ga:List (List ByteArray)
 tk:List (List ByteArray)
theorem InRow.kp {w d:World}{v:Value}{h:List In}{B:Nat}(R:InRow w v h)(n:Fr B v)(f:Kp B w d):InRow d v h:=by
 obtain ⟨p,c,rfl,m,k,l,a⟩:=R;refine ⟨p,c,rfl,m,k,l,fun b=>?_⟩;obtain ⟨g,o,rfl,j,a⟩:=a b;have e:=ZdG f n rfl j;refine ⟨g,o,rfl,cy j f.1,fun i x hi=>?_⟩;obtain ⟨c0,c1,c2,c3⟩:=a i x hi;exact ⟨(World.cell?_of_block e).trans c0,(World.cell?_of_block e).trans c1,(World.cell?_of_block e).trans c2,(World.cell?_of_block e).trans c3⟩
theorem DfRow.kp {w d:World}{v:Value}{h:List Df}{B:Nat}(R:DfRow w v h)(n:Fr B v)(f:Kp B w d):DfRow d v h:=by
 obtain ⟨p,c,rfl,m,k,l,a⟩:=R;refine ⟨p,c,rfl,m,k,l,fun b=>?_⟩;obtain ⟨g,o,rfl,j,a⟩:=a b;have e:=ZdG f n rfl j;refine ⟨g,o,rfl,cy j f.1,fun i x hi=>?_⟩;obtain ⟨c0,c1,c2⟩:=a i x hi;exact ⟨(World.cell?_of_block e).trans c0,(World.cell?_of_block e).trans c1,(World.cell?_of_block e).trans c2⟩
structure WR (B:Nat)(w:World)(vn vi vf vh vl vg vp va vt:Value)(d:Wd):Prop where
 rn:NRow w vn d.ns
 ri:InRow w vi d.is
 rf:DfRow w vf d.ds
 rh:XRow B 12 EH w vh d.hs
 rl:XRow B 5 EL w vl d.ls
 rg:XRow B 5 EG w vg d.gs
 rp:XRow B 3 EP w vp d.ps
 ra:XRow B 1 ES w va d.ga
 rt:XRow B 1 ES w vt d.tk
 fn:Fr B vn
 fi:Fr B vi
 ff:Fr B vf
theorem WR.kp {B:Nat}{w b:World}{c k f j l h e g i:Value}{d:Wd}(R:WR B w c k f j l h e g i d)(a:Kp B w b):WR B b c k f j l h e g i d :=
 ⟨R.rn.kp R.fn a,R.ri.kp R.fi a,R.rf.kp R.ff a,R.rh.kp stbH a,R.rl.kp stbL a,R.rg.kp stbG a,R.rp.kp stbP a,R.ra.kp stbS a,R.rt.kp stbS a,R.fn,R.fi,R.ff⟩
theorem WR.below {B:Nat}{w a:World}{b j e i k g c f h:Value}{d:Wd}(R:WR B w b j e i k g c f h d)(l:Below w.heap.size w a):WR B a b j e i k g c f h d:=R.kp (Kp.of_below l)
theorem WR.form {B:Nat}{w:World}{c k f j l h e g i:Value}{d:Wd}(R:WR B w c k f j l h e g i d):(∃ b a,c=.slice b d.ns.length a)/\(∃ b a,k=.slice b d.is.length a)/\(∃ b a,f=.slice b d.ds.length a)/\(∃ b a,j=.slice b d.hs.length a)/\(∃ b a,l=.slice b d.ls.length a)/\(∃ b a,h=.slice b d.gs.length a)/\(∃ b a,e=.slice b d.ps.length a)/\(∃ b a,g=.slice b d.ga.length a)/\(∃ b a,i=.slice b d.tk.length a) :=
 ⟨R.rn.small8,R.ri.small,R.rf.small,R.rh.small,R.rl.small,R.rg.small,R.rp.small,R.ra.small,R.rt.small⟩
structure SmW (d:Wd):Prop where
 hn:d.ns.length <= 1048576
 hi:d.is.length <= 1048576
 hf:d.ds.length <= 1048576
 hh:d.hs.length <= 1048576/\∀ x ∈ d.hs,SmH x
 hl:d.ls.length <= 1048576/\∀ x ∈ d.ls,SmL x
 hg:d.gs.length <= 1048576/\∀ x ∈ d.gs,SmG x
 hp:d.ps.length <= 1048576/\∀ x ∈ d.ps,SmP x
 ha:d.ga.length <= 1048576/\∀ x ∈ d.ga,SmS x
 ht:d.tk.length <= 1048576/\∀ x ∈ d.tk,SmS x
theorem ZnQ:(prog.info? 50).map (·.size)=some 11:=by kernel_rfl
theorem ZnG:(prog.info? 35).map (·.size)=some 11:=by kernel_rfl
theorem Znu:(prog.info? 44).map (·.size)=some 3:=by kernel_rfl
theorem Znr:(prog.info? 28).map (·.size)=some 3:=by kernel_rfl
theorem Zg4 (W V vf vh X vg Z T U:Value)(d:Wd)(B:Nat)(w:World)(R:WR B w W V vf vh X vg Z T U d) :
  Calls prog 4 #[.agg #[W,V,vf,.int .i64 d.pl,vh,X,vg,Z,.int .i64 d.nx,T,U],.int .i64 1048576] w fun e w'=>∃ r:Int,e=.returned (.int .i64 r) /\ -1 <= r/\r <= 1048576/\(0 <= r -> SmW d)/\Below w.heap.size w w':=by
 obtain ⟨⟨t,i,rfl⟩,⟨l,j,rfl⟩,⟨A,g,rfl⟩,⟨o,n,rfl⟩,⟨y,v,rfl⟩,⟨s,q,rfl⟩,⟨m,x,rfl⟩,⟨z,k,rfl⟩,⟨p,u,rfl⟩⟩:=R.form;have a:Below w.heap.size w (w.alloc (Obj.cells #[.slice t d.ns.length i,.slice l d.is.length j,.slice A d.ds.length g,.int .i64 d.pl,.slice o d.hs.length n,.slice y d.ls.length v,.slice s d.gs.length q,.slice m d.ps.length x,.int .i64 d.nx,.slice z d.ga.length k,.slice p d.tk.length u] 35)):=(cj _ _).alloc (ce _) _
 have c:(w.alloc (Obj.cells #[.slice t d.ns.length i,.slice l d.is.length j,.slice A d.ds.length g,.int .i64 d.pl,.slice o d.hs.length n,.slice y d.ls.length v,.slice s d.gs.length q,.slice m d.ps.length x,.int .i64 d.nx,.slice z d.ga.length k,.slice p d.tk.length u] 35)).heap[w.heap.size]? = some (Obj.cells #[.slice t d.ns.length i,.slice l d.is.length j,.slice A d.ds.length g,.int .i64 d.pl,.slice o d.hs.length n,.slice y d.ls.length v,.slice s d.gs.length q,.slice m d.ps.length x,.int .i64 d.nx,.slice z d.ga.length k,.slice p d.tk.length u] 35):=co _ _
 go_enter func4,ntmps4
 go_wp2_with (refine Zam rfl 28 _ rfl w.heap.size 0 rfl _ 35 #[.slice t d.ns.length i,.slice l d.is.length j,.slice A d.ds.length g] _ c rfl underlying28 rfl Znr ?_)
 refine (Zi0 _ _ _ d.ns d.is d.ds _ (R.rn.below a) (R.ri.below a) (R.rf.below a)).mono ?_;rintro e S ⟨G,rfl,h0,h1,E,b⟩;replace c:=(bb c b);replace a:=a.trans (b.mono a.size);clear b
 by_cases C:G < 0
 ·have D:Hid (G = -1):=by unfold Hid;omega
  go_wp2;go_ret;exact ⟨-1,rfl,by omega,by omega,fun h=>by omega,a⟩
 have E:=E (by omega);have f:S.cell? ⟨w.heap.size,0+4,none⟩=some (.slice o d.hs.length n):=cd S _ 4 _ _ _ c;go_wp2_with fail;refine (Zjq _ d.hs B G _ (R.rh.below stbH a) (by omega) (by omega)).mono ?_;rintro e w1 ⟨I,rfl,aa,ae,K,b⟩;replace c:=(bb c b);replace a:=a.trans (b.mono a.size);clear b f
 by_cases C:I < 0
 ·have D:Hid (I = -1):=by unfold Hid;omega
  go_wp2;go_ret;exact ⟨-1,rfl,by omega,by omega,fun h=>by omega,a⟩
 have K:=K (by omega);have f:w1.cell? ⟨w.heap.size,0+5,none⟩=some (.slice y d.ls.length v):=cd w1 _ 5 _ _ _ c;go_wp2_with fail;refine (Zj1 _ d.ls B I _ (R.rl.below stbL a) (by omega) (by omega)).mono ?_;rintro e w2 ⟨H,rfl,ah,ad,P,b⟩;replace c:=(bb c b);replace a:=a.trans (b.mono a.size);clear b f
 by_cases C:H < 0
 ·have D:Hid (H = -1):=by unfold Hid;omega
  go_wp2;go_ret;exact ⟨-1,rfl,by omega,by omega,fun h=>by omega,a⟩
 have P:=P (by omega);have f:w2.cell? ⟨w.heap.size,0+6,none⟩=some (.slice s d.gs.length q):=cd w2 _ 6 _ _ _ c;go_wp2_with fail;refine (Zkv _ d.gs B H _ (R.rg.below stbG a) (by omega) (by omega)).mono ?_;rintro e Y ⟨Q,rfl,ak,ai,N,b⟩;replace c:=(bb c b);replace a:=a.trans (b.mono a.size);clear b f
 by_cases C:Q < 0
 ·have D:Hid (Q = -1):=by unfold Hid;omega
  go_wp2;go_ret;exact ⟨-1,rfl,by omega,by omega,fun h=>by omega,a⟩
 have N:=N (by omega);have f:Y.cell? ⟨w.heap.size,0+7,none⟩=some (.slice m d.ps.length x):=cd Y _ 7 _ _ _ c;go_wp2_with fail;refine (Zkd _ d.ps B Q _ (R.rp.below stbP a) (by omega) (by omega)).mono ?_;rintro e w4 ⟨M,rfl,ab,ac,kp,b⟩;replace c:=(bb c b);replace a:=a.trans (b.mono a.size);clear b f
 by_cases C:M < 0
 ·have D:Hid (M = -1):=by unfold Hid;omega
  go_wp2;go_ret;exact ⟨-1,rfl,by omega,by omega,fun h=>by omega,a⟩
 have kp:=kp (by omega);have f:w4.cell? ⟨w.heap.size,0+9,none⟩=some (.slice z d.ga.length k):=cd w4 _ 9 _ _ _ c;go_wp2_with fail;refine (Zgd _ d.ga B M _ (R.ra.below stbS a) (by omega) (by omega)).mono ?_;rintro e w5 ⟨O,rfl,ag,al,L,b⟩;replace c:=(bb c b);replace a:=a.trans (b.mono a.size);clear b f
 by_cases C:O < 0
 ·have D:Hid (O = -1):=by unfold Hid;omega
  go_wp2;go_ret;exact ⟨-1,rfl,by omega,by omega,fun h=>by omega,a⟩
 have L:=L (by omega);have f:w5.cell? ⟨w.heap.size,0+10,none⟩=some (.slice p d.tk.length u):=cd w5 _ 10 _ _ _ c;go_wp2_with fail;refine (Zgd _ d.tk B O _ (R.rt.below stbS a) (by omega) (by omega)).mono ?_;rintro e w6 ⟨F,rfl,aj,af,J,b⟩;replace c:=(bb c b);replace a:=a.trans (b.mono a.size);clear b f
 by_cases C:F < 0
 ·have D:Hid (F = -1):=by unfold Hid;omega
  go_wp2;go_ret;exact ⟨-1,rfl,by omega,by omega,fun h=>by omega,a⟩
 have J:=J (by omega);clear c;go_wp2;go_ret;exact ⟨F,rfl,by omega,by omega,fun _=>⟨E.1,E.2.1,E.2.2,K,P,N,kp,L,J⟩,a⟩
theorem ZcO (vn vi vf vh vl vg vp va vt:Value)(d:Wd)(B:Nat)(w:World)(R:WR B w vn vi vf vh vl vg vp va vt d)(S:SmW d) :
  Calls prog 6 #[.agg #[vn,vi,vf,.int .i64 d.pl,vh,vl,vg,vp,.int .i64 d.nx,va,vt]] w fun e w'=>∃ un ui uf uh ul ug up ua ut,e=.returned (.agg #[un,ui,uf,.int .i64 d.pl,uh,ul,ug,up,.int .i64 d.nx,ua,ut])/\WR w.heap.size w' un ui uf uh ul ug up ua ut d/\Below w.heap.size w w':=by
 have av:=R.rn.szn;have ap:=R.ri.sz;have ao:=R.rf.sz;obtain ⟨⟨Z,ad,rfl⟩,⟨N,ae,rfl⟩,⟨ai,V,rfl⟩,⟨Q,P,rfl⟩,⟨ag,ab,rfl⟩,⟨af,U,rfl⟩,⟨O,ac,rfl⟩,⟨ah,X,rfl⟩,⟨T,aa,rfl⟩⟩:=R.form
 have i:Below w.heap.size w (((w.alloc (Obj.cells #[.slice Z d.ns.length ad,.slice N d.is.length ae,.slice ai d.ds.length V,.int .i64 d.pl,.slice Q d.hs.length P,.slice ag d.ls.length ab,.slice af d.gs.length U,.slice O d.ps.length ac,.int .i64 d.nx,.slice ah d.ga.length X,.slice T d.tk.length aa] 35)).alloc (Obj.cells #[.slice none 0 0,.slice none 0 0,.slice none 0 0,.int .i64 0,.slice none 0 0,.slice none 0 0,.slice none 0 0,.slice none 0 0,.int .i64 0,.slice none 0 0,.slice none 0 0] 50)).alloc (Obj.cells #[.slice none 0 0,.slice none 0 0,.slice none 0 0,.int .i64 0,.slice none 0 0,.slice none 0 0,.slice none 0 0,.slice none 0 0,.int .i64 0,.slice none 0 0,.slice none 0 0] 50)):=(((cj _ _).alloc (ce _) _).alloc (by simp) _).alloc (by simp;omega) _
 have m:(((w.alloc (Obj.cells #[.slice Z d.ns.length ad,.slice N d.is.length ae,.slice ai d.ds.length V,.int .i64 d.pl,.slice Q d.hs.length P,.slice ag d.ls.length ab,.slice af d.gs.length U,.slice O d.ps.length ac,.int .i64 d.nx,.slice ah d.ga.length X,.slice T d.tk.length aa] 35)).alloc (Obj.cells #[.slice none 0 0,.slice none 0 0,.slice none 0 0,.int .i64 0,.slice none 0 0,.slice none 0 0,.slice none 0 0,.slice none 0 0,.int .i64 0,.slice none 0 0,.slice none 0 0] 50)).alloc (Obj.cells #[.slice none 0 0,.slice none 0 0,.slice none 0 0,.int .i64 0,.slice none 0 0,.slice none 0 0,.slice none 0 0,.slice none 0 0,.int .i64 0,.slice none 0 0,.slice none 0 0] 50)).heap[w.heap.size]? = some (Obj.cells #[.slice Z d.ns.length ad,.slice N d.is.length ae,.slice ai d.ds.length V,.int .i64 d.pl,.slice Q d.hs.length P,.slice ag d.ls.length ab,.slice af d.gs.length U,.slice O d.ps.length ac,.int .i64 d.nx,.slice ah d.ga.length X,.slice T d.tk.length aa] 35):=(cz _ _ (by simp;omega)).trans ((cz _ _ (by simp)).trans (co _ _))
 have z:(((w.alloc (Obj.cells #[.slice Z d.ns.length ad,.slice N d.is.length ae,.slice ai d.ds.length V,.int .i64 d.pl,.slice Q d.hs.length P,.slice ag d.ls.length ab,.slice af d.gs.length U,.slice O d.ps.length ac,.int .i64 d.nx,.slice ah d.ga.length X,.slice T d.tk.length aa] 35)).alloc (Obj.cells #[.slice none 0 0,.slice none 0 0,.slice none 0 0,.int .i64 0,.slice none 0 0,.slice none 0 0,.slice none 0 0,.slice none 0 0,.int .i64 0,.slice none 0 0,.slice none 0 0] 50)).alloc (Obj.cells #[.slice none 0 0,.slice none 0 0,.slice none 0 0,.int .i64 0,.slice none 0 0,.slice none 0 0,.slice none 0 0,.slice none 0 0,.int .i64 0,.slice none 0 0,.slice none 0 0] 50)).heap[w.heap.size+1]? = some (Obj.cells #[.slice none 0 0,.slice none 0 0,.slice none 0 0,.int .i64 0,.slice none 0 0,.slice none 0 0,.slice none 0 0,.slice none 0 0,.int .i64 0,.slice none 0 0,.slice none 0 0] 50):=(cz _ _ (by simp)).trans (cH _ _ _)
 have v:(((w.alloc (Obj.cells #[.slice Z d.ns.length ad,.slice N d.is.length ae,.slice ai d.ds.length V,.int .i64 d.pl,.slice Q d.hs.length P,.slice ag d.ls.length ab,.slice af d.gs.length U,.slice O d.ps.length ac,.int .i64 d.nx,.slice ah d.ga.length X,.slice T d.tk.length aa] 35)).alloc (Obj.cells #[.slice none 0 0,.slice none 0 0,.slice none 0 0,.int .i64 0,.slice none 0 0,.slice none 0 0,.slice none 0 0,.slice none 0 0,.int .i64 0,.slice none 0 0,.slice none 0 0] 50)).alloc (Obj.cells #[.slice none 0 0,.slice none 0 0,.slice none 0 0,.int .i64 0,.slice none 0 0,.slice none 0 0,.slice none 0 0,.slice none 0 0,.int .i64 0,.slice none 0 0,.slice none 0 0] 50)).heap[w.heap.size+2]? = some (Obj.cells #[.slice none 0 0,.slice none 0 0,.slice none 0 0,.int .i64 0,.slice none 0 0,.slice none 0 0,.slice none 0 0,.slice none 0 0,.int .i64 0,.slice none 0 0,.slice none 0 0] 50):=by
  have h:=co ((w.alloc (Obj.cells #[.slice Z d.ns.length ad,.slice N d.is.length ae,.slice ai d.ds.length V,.int .i64 d.pl,.slice Q d.hs.length P,.slice ag d.ls.length ab,.slice af d.gs.length U,.slice O d.ps.length ac,.int .i64 d.nx,.slice ah d.ga.length X,.slice T d.tk.length aa] 35)).alloc (Obj.cells #[.slice none 0 0,.slice none 0 0,.slice none 0 0,.int .i64 0,.slice none 0 0,.slice none 0 0,.slice none 0 0,.slice none 0 0,.int .i64 0,.slice none 0 0,.slice none 0 0] 50)) (Obj.cells #[.slice none 0 0,.slice none 0 0,.slice none 0 0,.int .i64 0,.slice none 0 0,.slice none 0 0,.slice none 0 0,.slice none 0 0,.int .i64 0,.slice none 0 0,.slice none 0 0] 50)
  simpa using h
 have c:w.heap.size+3 <= (((w.alloc (Obj.cells #[.slice Z d.ns.length ad,.slice N d.is.length ae,.slice ai d.ds.length V,.int .i64 d.pl,.slice Q d.hs.length P,.slice ag d.ls.length ab,.slice af d.gs.length U,.slice O d.ps.length ac,.int .i64 d.nx,.slice ah d.ga.length X,.slice T d.tk.length aa] 35)).alloc (Obj.cells #[.slice none 0 0,.slice none 0 0,.slice none 0 0,.int .i64 0,.slice none 0 0,.slice none 0 0,.slice none 0 0,.slice none 0 0,.int .i64 0,.slice none 0 0,.slice none 0 0] 50)).alloc (Obj.cells #[.slice none 0 0,.slice none 0 0,.slice none 0 0,.int .i64 0,.slice none 0 0,.slice none 0 0,.slice none 0 0,.slice none 0 0,.int .i64 0,.slice none 0 0,.slice none 0 0] 50)).heap.size:=by simp
 go_enter func6,ntmps6
 go_wp2_with (refine Zam rfl 28 _ rfl w.heap.size 0 rfl _ 35 #[.slice Z d.ns.length ad,.slice N d.is.length ae,.slice ai d.ds.length V] _ m rfl underlying28 rfl Znr ?_)
 refine (Zh1 _ _ _ d.ns d.is d.ds _ (R.rn.below i) (R.ri.below i) (R.rf.below i) (by have:=S.hn;omega) (by have:=S.hi;omega) (by have:=S.hf;omega)).mono ?_;rintro e w1 ⟨v1,v2,v3,rfl,O1,O2,O3,f⟩;replace m:=(bb m f);replace z:=(bb z f);replace v:=(bb v f);replace i:=i.trans (f.mono i.size);have l:=f.size;obtain ⟨j,n,rfl⟩:=Zag O1;obtain ⟨q,o,rfl⟩:=Zag O2;obtain ⟨k,p,rfl⟩:=Zag O3;have Y:=(Fr.of_own O1).mono c;have W:=(Fr.of_own O2).mono c;have M:=(Fr.of_own O3).mono c;have x:=NRow.of_own O1 (by have:=S.hn;omega) av;have u:=InRow.of_own O2 (by have:=S.hi;omega) ap;have y:=DfRow.of_own O3 (by have:=S.hf;omega) ao;clear O1 O2 O3;replace c:w.heap.size+3 <= w1.heap.size:=Nat.le_trans c l;clear f l
 go_wp2_with (refine ZaM rfl 44 _ _ rfl (w.heap.size+2) 0 #[.slice j d.ns.length n,.slice q d.is.length o,.slice k d.ds.length p] rfl rfl 50 #[.slice none 0 0,.slice none 0 0,.slice none 0 0,.int .i64 0,.slice none 0 0,.slice none 0 0,.slice none 0 0,.slice none 0 0,.int .i64 0,.slice none 0 0,.slice none 0 0] #[.slice j d.ns.length n,.slice q d.is.length o,.slice k d.ds.length p,.int .i64 0,.slice none 0 0,.slice none 0 0,.slice none 0 0,.slice none 0 0,.int .i64 0,.slice none 0 0,.slice none 0 0] v (by simp) Znu (by simp [Value.oneCell']) rfl ?_)
 intro u1 H g r a;have b:Kp (w.heap.size+3) _ u1:=Kp.of_oth (by omega) a (by omega);replace x:=x.kp Y b;replace u:=u.kp W b;replace y:=y.kp M b;replace m:=(a w.heap.size (by omega)).trans m;replace z:=(a (w.heap.size+1) (by omega)).trans z;replace i:=i.trans (g.mono (by omega));replace v:=H;replace c:w.heap.size+3 <= u1.heap.size:=by omega
 clear H g r a b;have kc:u1.cell? ⟨w.heap.size,0+3,none⟩=some (.int .i64 d.pl):=cd u1 _ 3 _ _ _ m
 go_wp2_with (refine Zab rfl 3 _ _ rfl (w.heap.size+2) 3 (.int .i64 d.pl) #[.int .i64 d.pl] rfl rfl rfl rfl 50 #[.slice j d.ns.length n,.slice q d.is.length o,.slice k d.ds.length p,.int .i64 0,.slice none 0 0,.slice none 0 0,.slice none 0 0,.slice none 0 0,.int .i64 0,.slice none 0 0,.slice none 0 0] #[.slice j d.ns.length n,.slice q d.is.length o,.slice k d.ds.length p,.int .i64 d.pl,.slice none 0 0,.slice none 0 0,.slice none 0 0,.slice none 0 0,.int .i64 0,.slice none 0 0,.slice none 0 0] v (by simp) (by kernel_rfl) rfl ?_)
 intro u2 H g r a;have b:Kp (w.heap.size+3) _ u2:=Kp.of_oth (by omega) a (by omega);replace x:=x.kp Y b;replace u:=u.kp W b;replace y:=y.kp M b;replace m:=(a w.heap.size (by omega)).trans m;replace z:=(a (w.heap.size+1) (by omega)).trans z;replace i:=i.trans (g.mono (by omega));replace v:=H;replace c:w.heap.size+3 <= u2.heap.size:=by omega
 clear H g r a b kc;have kc:u2.cell? ⟨w.heap.size,0+4,none⟩=some (.slice Q d.hs.length P):=cd u2 _ 4 _ _ _ m;go_wp2_with fail;refine (Zi9 _ d.hs B _ (R.rh.below stbH i) (by have:=S.hh.1;omega) S.hh.2).mono ?_;rintro e w3 ⟨vh,rfl,D,f⟩;have b:Kp (w.heap.size+3) _ w3:=Kp.of_below f;replace x:=x.kp Y b;replace u:=u.kp W b;replace y:=y.kp M b;replace m:=(bb m f);replace z:=(bb z f);replace v:=(bb v f);replace i:=i.trans (f.mono i.size);have l:=f.size;obtain ⟨s,t,rfl⟩:=D.small;replace D:=(D.mono stbH c);replace c:w.heap.size+3 <= w3.heap.size:=Nat.le_trans c l;clear f b l kc
 go_wp2_with (refine Zab rfl 45 _ _ rfl (w.heap.size+2) 4 (.slice s d.hs.length t) #[.slice s d.hs.length t] rfl rfl rfl rfl 50 #[.slice j d.ns.length n,.slice q d.is.length o,.slice k d.ds.length p,.int .i64 d.pl,.slice none 0 0,.slice none 0 0,.slice none 0 0,.slice none 0 0,.int .i64 0,.slice none 0 0,.slice none 0 0] #[.slice j d.ns.length n,.slice q d.is.length o,.slice k d.ds.length p,.int .i64 d.pl,.slice s d.hs.length t,.slice none 0 0,.slice none 0 0,.slice none 0 0,.int .i64 0,.slice none 0 0,.slice none 0 0] v (by simp) (by kernel_rfl) rfl ?_)
 intro u3 H g r a;have b:Kp (w.heap.size+3) _ u3:=Kp.of_oth (by omega) a (by omega);replace x:=x.kp Y b;replace u:=u.kp W b;replace y:=y.kp M b;replace D:=D.kp stbH b;replace m:=(a w.heap.size (by omega)).trans m;replace z:=(a (w.heap.size+1) (by omega)).trans z;replace i:=i.trans (g.mono (by omega));replace v:=H;replace c:w.heap.size+3 <= u3.heap.size:=by omega
 clear H g r a b;have kc:u3.cell? ⟨w.heap.size,0+5,none⟩=some (.slice ag d.ls.length ab):=cd u3 _ 5 _ _ _ m;go_wp2_with fail;refine (Zj5 _ d.ls B _ (R.rl.below stbL i) (by have:=S.hl.1;omega) S.hl.2).mono ?_;rintro e w4 ⟨vl,rfl,G,f⟩;have b:Kp (w.heap.size+3) _ w4:=Kp.of_below f;replace x:=x.kp Y b;replace u:=u.kp W b;replace y:=y.kp M b;replace D:=D.kp stbH b;replace m:=(bb m f);replace z:=(bb z f);replace v:=(bb v f);replace i:=i.trans (f.mono i.size);have l:=f.size;obtain ⟨C,A,rfl⟩:=G.small;replace G:=(G.mono stbL c);replace c:w.heap.size+3 <= w4.heap.size:=Nat.le_trans c l;clear f b l kc
 go_wp2_with (refine Zab rfl 46 _ _ rfl (w.heap.size+2) 5 (.slice C d.ls.length A) #[.slice C d.ls.length A] rfl rfl rfl rfl 50 #[.slice j d.ns.length n,.slice q d.is.length o,.slice k d.ds.length p,.int .i64 d.pl,.slice s d.hs.length t,.slice none 0 0,.slice none 0 0,.slice none 0 0,.int .i64 0,.slice none 0 0,.slice none 0 0] #[.slice j d.ns.length n,.slice q d.is.length o,.slice k d.ds.length p,.int .i64 d.pl,.slice s d.hs.length t,.slice C d.ls.length A,.slice none 0 0,.slice none 0 0,.int .i64 0,.slice none 0 0,.slice none 0 0] v (by simp) (by kernel_rfl) rfl ?_)
 intro u4 H g r a;have b:Kp (w.heap.size+3) _ u4:=Kp.of_oth (by omega) a (by omega);replace x:=x.kp Y b;replace u:=u.kp W b;replace y:=y.kp M b;replace D:=D.kp stbH b;replace G:=G.kp stbL b;replace m:=(a w.heap.size (by omega)).trans m;replace z:=(a (w.heap.size+1) (by omega)).trans z;replace i:=i.trans (g.mono (by omega));replace v:=H;replace c:w.heap.size+3 <= u4.heap.size:=by omega
 clear H g r a b;have kc:u4.cell? ⟨w.heap.size,0+6,none⟩=some (.slice af d.gs.length U):=cd u4 _ 6 _ _ _ m;go_wp2_with fail;refine (Zkz _ d.gs B _ (R.rg.below stbG i) (by have:=S.hg.1;omega) S.hg.2).mono ?_;rintro e w5 ⟨vg,rfl,K,f⟩;have b:Kp (w.heap.size+3) _ w5:=Kp.of_below f;replace x:=x.kp Y b;replace u:=u.kp W b;replace y:=y.kp M b;replace D:=D.kp stbH b;replace G:=G.kp stbL b;replace m:=(bb m f);replace z:=(bb z f);replace v:=(bb v f);replace i:=i.trans (f.mono i.size);have l:=f.size;obtain ⟨F,E,rfl⟩:=K.small;replace K:=(K.mono stbG c);replace c:w.heap.size+3 <= w5.heap.size:=Nat.le_trans c l;clear f b l kc
 go_wp2_with (refine Zab rfl 47 _ _ rfl (w.heap.size+2) 6 (.slice F d.gs.length E) #[.slice F d.gs.length E] rfl rfl rfl rfl 50 #[.slice j d.ns.length n,.slice q d.is.length o,.slice k d.ds.length p,.int .i64 d.pl,.slice s d.hs.length t,.slice C d.ls.length A,.slice none 0 0,.slice none 0 0,.int .i64 0,.slice none 0 0,.slice none 0 0] #[.slice j d.ns.length n,.slice q d.is.length o,.slice k d.ds.length p,.int .i64 d.pl,.slice s d.hs.length t,.slice C d.ls.length A,.slice F d.gs.length E,.slice none 0 0,.int .i64 0,.slice none 0 0,.slice none 0 0] v (by simp) (by kernel_rfl) rfl ?_)
 intro u5 H g r a;have b:Kp (w.heap.size+3) _ u5:=Kp.of_oth (by omega) a (by omega);replace x:=x.kp Y b;replace u:=u.kp W b;replace y:=y.kp M b;replace D:=D.kp stbH b;replace G:=G.kp stbL b;replace K:=K.kp stbG b;replace m:=(a w.heap.size (by omega)).trans m;replace z:=(a (w.heap.size+1) (by omega)).trans z;replace i:=i.trans (g.mono (by omega));replace v:=H;replace c:w.heap.size+3 <= u5.heap.size:=by omega
 clear H g r a b;have kc:u5.cell? ⟨w.heap.size,0+7,none⟩=some (.slice O d.ps.length ac):=cd u5 _ 7 _ _ _ m;go_wp2_with fail;refine (Zkb _ d.ps B _ (R.rp.below stbP i) (by have:=S.hp.1;omega) S.hp.2).mono ?_;rintro e w6 ⟨vp,rfl,L,f⟩;have b:Kp (w.heap.size+3) _ w6:=Kp.of_below f;replace x:=x.kp Y b;replace u:=u.kp W b;replace y:=y.kp M b;replace D:=D.kp stbH b;replace G:=G.kp stbL b;replace K:=K.kp stbG b;replace m:=(bb m f);replace z:=(bb z f);replace v:=(bb v f);replace i:=i.trans (f.mono i.size);have l:=f.size;obtain ⟨J,I,rfl⟩:=L.small;replace L:=(L.mono stbP c);replace c:w.heap.size+3 <= w6.heap.size:=Nat.le_trans c l;clear f b l kc
 go_wp2_with (refine Zab rfl 48 _ _ rfl (w.heap.size+2) 7 (.slice J d.ps.length I) #[.slice J d.ps.length I] rfl rfl rfl rfl 50 #[.slice j d.ns.length n,.slice q d.is.length o,.slice k d.ds.length p,.int .i64 d.pl,.slice s d.hs.length t,.slice C d.ls.length A,.slice F d.gs.length E,.slice none 0 0,.int .i64 0,.slice none 0 0,.slice none 0 0] #[.slice j d.ns.length n,.slice q d.is.length o,.slice k d.ds.length p,.int .i64 d.pl,.slice s d.hs.length t,.slice C d.ls.length A,.slice F d.gs.length E,.slice J d.ps.length I,.int .i64 0,.slice none 0 0,.slice none 0 0] v (by simp) (by kernel_rfl) rfl ?_)
 intro u6 H g r a;have b:Kp (w.heap.size+3) _ u6:=Kp.of_oth (by omega) a (by omega);replace x:=x.kp Y b;replace u:=u.kp W b;replace y:=y.kp M b;replace D:=D.kp stbH b;replace G:=G.kp stbL b;replace K:=K.kp stbG b;replace L:=L.kp stbP b;replace m:=(a w.heap.size (by omega)).trans m;replace z:=(a (w.heap.size+1) (by omega)).trans z;replace i:=i.trans (g.mono (by omega));replace v:=H;replace c:w.heap.size+3 <= u6.heap.size:=by omega
 clear H g r a b;have kc:u6.cell? ⟨w.heap.size,0+8,none⟩=some (.int .i64 d.nx):=cd u6 _ 8 _ _ _ m
 go_wp2_with (refine Zab rfl 3 _ _ rfl (w.heap.size+2) 8 (.int .i64 d.nx) #[.int .i64 d.nx] rfl rfl rfl rfl 50 #[.slice j d.ns.length n,.slice q d.is.length o,.slice k d.ds.length p,.int .i64 d.pl,.slice s d.hs.length t,.slice C d.ls.length A,.slice F d.gs.length E,.slice J d.ps.length I,.int .i64 0,.slice none 0 0,.slice none 0 0] #[.slice j d.ns.length n,.slice q d.is.length o,.slice k d.ds.length p,.int .i64 d.pl,.slice s d.hs.length t,.slice C d.ls.length A,.slice F d.gs.length E,.slice J d.ps.length I,.int .i64 d.nx,.slice none 0 0,.slice none 0 0] v (by simp) (by kernel_rfl) rfl ?_)
 intro u7 H g r a;have b:Kp (w.heap.size+3) _ u7:=Kp.of_oth (by omega) a (by omega);replace x:=x.kp Y b;replace u:=u.kp W b;replace y:=y.kp M b;replace D:=D.kp stbH b;replace G:=G.kp stbL b;replace K:=K.kp stbG b;replace L:=L.kp stbP b;replace m:=(a w.heap.size (by omega)).trans m;replace z:=(a (w.heap.size+1) (by omega)).trans z;replace i:=i.trans (g.mono (by omega));replace v:=H;replace c:w.heap.size+3 <= u7.heap.size:=by omega
 clear H g r a b kc;have kc:u7.cell? ⟨w.heap.size,0+9,none⟩=some (.slice ah d.ga.length X):=cd u7 _ 9 _ _ _ m;go_wp2_with fail;refine (ZfD _ d.ga B _ (R.ra.below stbS i) (by have:=S.ha.1;omega) S.ha.2).mono ?_;rintro e w8 ⟨va,rfl,Xa,f⟩;have b:Kp (w.heap.size+3) _ w8:=Kp.of_below f;replace x:=x.kp Y b;replace u:=u.kp W b;replace y:=y.kp M b;replace D:=D.kp stbH b;replace G:=G.kp stbL b;replace K:=K.kp stbG b;replace L:=L.kp stbP b;replace m:=(bb m f);replace z:=(bb z f);replace v:=(bb v f);replace i:=i.trans (f.mono i.size);have l:=f.size;obtain ⟨ak,aj,rfl⟩:=Xa.small;replace Xa:=(Xa.mono stbS c);replace c:w.heap.size+3 <= w8.heap.size:=Nat.le_trans c l;clear f b l kc
 go_wp2_with (refine Zab rfl 33 _ _ rfl (w.heap.size+2) 9 (.slice ak d.ga.length aj) #[.slice ak d.ga.length aj] rfl rfl rfl rfl 50 #[.slice j d.ns.length n,.slice q d.is.length o,.slice k d.ds.length p,.int .i64 d.pl,.slice s d.hs.length t,.slice C d.ls.length A,.slice F d.gs.length E,.slice J d.ps.length I,.int .i64 d.nx,.slice none 0 0,.slice none 0 0] #[.slice j d.ns.length n,.slice q d.is.length o,.slice k d.ds.length p,.int .i64 d.pl,.slice s d.hs.length t,.slice C d.ls.length A,.slice F d.gs.length E,.slice J d.ps.length I,.int .i64 d.nx,.slice ak d.ga.length aj,.slice none 0 0] v (by simp) (by kernel_rfl) rfl ?_)
 intro u8 H g r a;have b:Kp (w.heap.size+3) _ u8:=Kp.of_oth (by omega) a (by omega);replace x:=x.kp Y b;replace u:=u.kp W b;replace y:=y.kp M b;replace D:=D.kp stbH b;replace G:=G.kp stbL b;replace K:=K.kp stbG b;replace L:=L.kp stbP b;replace Xa:=Xa.kp stbS b;replace m:=(a w.heap.size (by omega)).trans m;replace z:=(a (w.heap.size+1) (by omega)).trans z;replace i:=i.trans (g.mono (by omega));replace v:=H;replace c:w.heap.size+3 <= u8.heap.size:=by omega
 clear H g r a b;have kc:u8.cell? ⟨w.heap.size,0+10,none⟩=some (.slice T d.tk.length aa):=cd u8 _ 10 _ _ _ m;go_wp2_with fail;refine (ZfD _ d.tk B _ (R.rt.below stbS i) (by have:=S.ht.1;omega) S.ht.2).mono ?_;rintro e w9 ⟨vt,rfl,Xt,f⟩;have b:Kp (w.heap.size+3) _ w9:=Kp.of_below f;replace x:=x.kp Y b;replace u:=u.kp W b;replace y:=y.kp M b;replace D:=D.kp stbH b;replace G:=G.kp stbL b;replace K:=K.kp stbG b;replace L:=L.kp stbP b;replace Xa:=Xa.kp stbS b;replace m:=(bb m f);replace z:=(bb z f);replace v:=(bb v f);replace i:=i.trans (f.mono i.size);have l:=f.size;obtain ⟨al,am,rfl⟩:=Xt.small;replace Xt:=(Xt.mono stbS c);replace c:w.heap.size+3 <= w9.heap.size:=Nat.le_trans c l;clear f b l kc
 go_wp2_with (refine Zab rfl 33 _ _ rfl (w.heap.size+2) 10 (.slice al d.tk.length am) #[.slice al d.tk.length am] rfl rfl rfl rfl 50 #[.slice j d.ns.length n,.slice q d.is.length o,.slice k d.ds.length p,.int .i64 d.pl,.slice s d.hs.length t,.slice C d.ls.length A,.slice F d.gs.length E,.slice J d.ps.length I,.int .i64 d.nx,.slice ak d.ga.length aj,.slice none 0 0] #[.slice j d.ns.length n,.slice q d.is.length o,.slice k d.ds.length p,.int .i64 d.pl,.slice s d.hs.length t,.slice C d.ls.length A,.slice F d.gs.length E,.slice J d.ps.length I,.int .i64 d.nx,.slice ak d.ga.length aj,.slice al d.tk.length am] v (by simp) (by kernel_rfl) rfl ?_)
 intro u9 H g r a;have b:Kp (w.heap.size+3) _ u9:=Kp.of_oth (by omega) a (by omega);replace x:=x.kp Y b;replace u:=u.kp W b;replace y:=y.kp M b;replace D:=D.kp stbH b;replace G:=G.kp stbL b;replace K:=K.kp stbG b;replace L:=L.kp stbP b;replace Xa:=Xa.kp stbS b;replace Xt:=Xt.kp stbS b;replace m:=(a w.heap.size (by omega)).trans m;replace z:=(a (w.heap.size+1) (by omega)).trans z;replace i:=i.trans (g.mono (by omega));replace v:=H;replace c:w.heap.size+3 <= u9.heap.size:=by omega
 clear H g r a b
 go_wp2_with (first
  | (refine cE rfl 50 _ rfl (w.heap.size+2) rfl 50 #[.slice j d.ns.length n,.slice q d.is.length o,.slice k d.ds.length p,.int .i64 d.pl,.slice s d.hs.length t,.slice C d.ls.length A,.slice F d.gs.length E,.slice J d.ps.length I,.int .i64 d.nx,.slice ak d.ga.length aj,.slice al d.tk.length am] (0,0) _ v underlying50 rfl ZnQ ?_)
  | (refine Zae rfl 50 _ _ rfl (w.heap.size+1) #[.slice j d.ns.length n,.slice q d.is.length o,.slice k d.ds.length p,.int .i64 d.pl,.slice s d.hs.length t,.slice C d.ls.length A,.slice F d.gs.length E,.slice J d.ps.length I,.int .i64 d.nx,.slice ak d.ga.length aj,.slice al d.tk.length am] rfl rfl 50 #[.slice none 0 0,.slice none 0 0,.slice none 0 0,.int .i64 0,.slice none 0 0,.slice none 0 0,.slice none 0 0,.slice none 0 0,.int .i64 0,.slice none 0 0,.slice none 0 0] z ZnQ rfl (by simp [Value.oneCell']) ?_))
 intro w9 au ar aw an;have b:Kp (w.heap.size+3) _ w9:=Kp.of_oth (by omega) an (by omega);replace x:=x.kp Y b;replace u:=u.kp W b;replace y:=y.kp M b;replace D:=D.kp stbH b;replace G:=G.kp stbL b;replace K:=K.kp stbG b;replace L:=L.kp stbP b;replace Xa:=Xa.kp stbS b;replace Xt:=Xt.kp stbS b;have aq:Below w.heap.size w w9:=i.trans (ar.mono (by omega));go_wp2;exact cx (results_cell_row rfl _ _ (w.heap.size+1) 50 _ (0,0) _ rfl au underlying50 rfl ZnQ) rfl ⟨_,_,_,_,_,_,_,_,_,rfl,⟨x,u,y,D.mono stbH (by omega),G.mono stbL (by omega),K.mono stbG (by omega),L.mono stbP (by omega),Xa.mono stbS (by omega),Xt.mono stbS (by omega),Y.mono (by omega),W.mono (by omega),M.mono (by omega)⟩,aq⟩
theorem ZgF (vn vi vf vh vl vg vp va vt un ui uf uh ul ug up ua ut:Value)(d:Wd)(B C:Nat)(w:World)(R:WR B w vn vi vf vh vl vg vp va vt d)(Q:WR C w un ui uf uh ul ug up ua ut d) :
  Calls prog 8 #[.agg #[vn,vi,vf,.int .i64 d.pl,vh,vl,vg,vp,.int .i64 d.nx,va,vt],.agg #[un,ui,uf,.int .i64 d.pl,uh,ul,ug,up,.int .i64 d.nx,ua,ut]] w fun e w'=>e=.returned (.bool true)/\Below w.heap.size w w':=by
 obtain ⟨⟨I,l,rfl⟩,⟨q,o,rfl⟩,⟨W,k,rfl⟩,⟨t,s,rfl⟩,⟨P,M,rfl⟩,⟨E,D,rfl⟩,⟨r,O,rfl⟩,⟨V,p,rfl⟩,⟨v,L,rfl⟩⟩:=R.form;obtain ⟨⟨F,n,rfl⟩,⟨X,S,rfl⟩,⟨K,H,rfl⟩,⟨z,u,rfl⟩,⟨x,T,rfl⟩,⟨U,y,rfl⟩,⟨j,m,rfl⟩,⟨A,J,rfl⟩,⟨G,N,rfl⟩⟩:=Q.form;obtain ⟨a,f,c⟩:=Zax w (Obj.cells #[.slice I d.ns.length l,.slice q d.is.length o,.slice W d.ds.length k,.int .i64 d.pl,.slice t d.hs.length s,.slice P d.ls.length M,.slice E d.gs.length D,.slice r d.ps.length O,.int .i64 d.nx,.slice V d.ga.length p,.slice v d.tk.length L] 50) (Obj.cells #[.slice F d.ns.length n,.slice X d.is.length S,.slice K d.ds.length H,.int .i64 d.pl,.slice z d.hs.length u,.slice x d.ls.length T,.slice U d.gs.length y,.slice j d.ps.length m,.int .i64 d.nx,.slice A d.ga.length J,.slice G d.tk.length N] 50)
 go_enter func8,ntmps8
 go_wp2_with (first
  | (refine Zam rfl 44 _ rfl w.heap.size 0 rfl _ 50 #[.slice I d.ns.length l,.slice q d.is.length o,.slice W d.ds.length k] _ f rfl underlying44 rfl Znu ?_)
  | (refine Zam rfl 44 _ rfl (w.heap.size+1) 0 rfl _ 50 #[.slice F d.ns.length n,.slice X d.is.length S,.slice K d.ds.length H] _ c rfl underlying44 rfl Znu ?_))
 refine (ZiQ _ _ _ _ _ _ d.ns d.is d.ds _ (R.rn.below a) (R.ri.below a) (R.rf.below a) (Q.rn.below a) (Q.ri.below a) (Q.rf.below a)).mono ?_;rintro e h ⟨rfl,b⟩;replace f:=(bb f b);replace c:=(bb c b);replace a:=a.trans (b.mono a.size);clear b;have i1:h.cell? ⟨w.heap.size,0+3,none⟩=some (.int .i64 d.pl):=cd h _ 3 _ _ _ f;have i2:h.cell? ⟨w.heap.size+1,0+3,none⟩=some (.int .i64 d.pl):=cd h _ 3 _ _ _ c;have g:h.cell? ⟨w.heap.size,0+4,none⟩=some (.slice t d.hs.length s):=cd h _ 4 _ _ _ f;have k2:h.cell? ⟨w.heap.size+1,0+4,none⟩=some (.slice z d.hs.length u):=cd h _ 4 _ _ _ c;go_wp2_with fail;refine (Zjz _ _ d.hs B C _ (R.rh.below stbH a) (Q.rh.below stbH a)).mono ?_;rintro e Z ⟨rfl,b⟩;replace f:=(bb f b);replace c:=(bb c b);replace a:=a.trans (b.mono a.size);clear b g k2 i1 i2
 have g:Z.cell? ⟨w.heap.size,0+5,none⟩=some (.slice P d.ls.length M):=cd Z _ 5 _ _ _ f;have k2:Z.cell? ⟨w.heap.size+1,0+5,none⟩=some (.slice x d.ls.length T):=cd Z _ 5 _ _ _ c;go_wp2_with fail;refine (Zko _ _ d.ls B C _ (R.rl.below stbL a) (Q.rl.below stbL a)).mono ?_;rintro e w2 ⟨rfl,b⟩;replace f:=(bb f b);replace c:=(bb c b);replace a:=a.trans (b.mono a.size);clear b g k2;have g:w2.cell? ⟨w.heap.size,0+6,none⟩=some (.slice E d.gs.length D):=cd w2 _ 6 _ _ _ f;have k2:w2.cell? ⟨w.heap.size+1,0+6,none⟩=some (.slice U d.gs.length y):=cd w2 _ 6 _ _ _ c;go_wp2_with fail;refine (ZjO _ _ d.gs B C _ (R.rg.below stbG a) (Q.rg.below stbG a)).mono ?_;rintro e Y ⟨rfl,b⟩;replace f:=(bb f b);replace c:=(bb c b);replace a:=a.trans (b.mono a.size);clear b g k2
 have g:Y.cell? ⟨w.heap.size,0+7,none⟩=some (.slice r d.ps.length O):=cd Y _ 7 _ _ _ f;have k2:Y.cell? ⟨w.heap.size+1,0+7,none⟩=some (.slice j d.ps.length m):=cd Y _ 7 _ _ _ c;go_wp2_with fail;refine (Zjp _ _ d.ps B C _ (R.rp.below stbP a) (Q.rp.below stbP a)).mono ?_;rintro e i ⟨rfl,b⟩;replace f:=(bb f b);replace c:=(bb c b);replace a:=a.trans (b.mono a.size);clear b g k2;have i1:i.cell? ⟨w.heap.size,0+8,none⟩=some (.int .i64 d.nx):=cd i _ 8 _ _ _ f;have i2:i.cell? ⟨w.heap.size+1,0+8,none⟩=some (.int .i64 d.nx):=cd i _ 8 _ _ _ c;have g:i.cell? ⟨w.heap.size,0+9,none⟩=some (.slice V d.ga.length p):=cd i _ 9 _ _ _ f;have k2:i.cell? ⟨w.heap.size+1,0+9,none⟩=some (.slice A d.ga.length J):=cd i _ 9 _ _ _ c;go_wp2_with fail;refine (Zgh _ _ d.ga B C _ (R.ra.below stbS a) (Q.ra.below stbS a)).mono ?_;rintro e w5 ⟨rfl,b⟩
 replace f:=(bb f b);replace c:=(bb c b);replace a:=a.trans (b.mono a.size);clear b g k2 i1 i2;have g:w5.cell? ⟨w.heap.size,0+10,none⟩=some (.slice v d.tk.length L):=cd w5 _ 10 _ _ _ f;have k2:w5.cell? ⟨w.heap.size+1,0+10,none⟩=some (.slice G d.tk.length N):=cd w5 _ 10 _ _ _ c;go_wp2_with fail;refine (Zgh _ _ d.tk B C _ (R.rt.below stbS a) (Q.rt.below stbS a)).mono ?_;rintro e w6 ⟨rfl,b⟩;replace f:=(bb f b);replace c:=(bb c b);replace a:=a.trans (b.mono a.size);clear b g k2;clear f c;go_wp2;go_ret;exact ⟨rfl,a⟩
def Zmk:List Hm -> Int -> Nat -> Int
 | [],_,_=>-1
 | h :: hs,p,i=>if h.i == p then i else Zmk hs p (i+1)
theorem WR.mono {B C:Nat}{w:World}{a j c i k f b e g:Value}{d:Wd}(R:WR B w a j c i k f b e g d)(h:C <= B):WR C w a j c i k f b e g d :=
 ⟨R.rn,R.ri,R.rf,R.rh.mono stbH h,R.rl.mono stbL h,R.rg.mono stbG h,R.rp.mono stbP h,R.ra.mono stbS h,R.rt.mono stbS h,R.fn.mono h,R.fi.mono h,R.ff.mono h⟩
def movN (ns:List Nd)(is:List In)(ds:List Df)(s:ByteArray):Int :=
 match mrd (sb s) with
 | none=>0
 | some (k,_,t)=>if k=2 then (pdT (pdR ns is ds (sb t))).1 else 0
def movB (ns:List Nd)(is:List In)(ds:List Df)(p:Int)(s:ByteArray):Bool:=decide (0 < p) && (movN ns is ds s == p)
theorem Zgb {ns:List Nd}{is:List In}{ds:List Df}{s:ByteArray}(h:mrd (sb s)=none):movN ns is ds s=0:=by unfold movN;rw [h]
theorem Zeu {ns:List Nd}{is:List In}{ds:List Df}{s:ByteArray}{k p:Int}{t:ByteArray}(h:mrd (sb s)=some (k,p,t))(a:k ≠ 2):movN ns is ds s=0:=by unfold movN;rw [h];exact if_neg a
theorem ZfB {ns:List Nd}{is:List In}{ds:List Df}{s:ByteArray}{p:Int}{t:ByteArray}(h:mrd (sb s)=some (2,p,t)):movN ns is ds s=(pdT (pdR ns is ds (sb t))).1:=by unfold movN;rw [h];exact if_pos rfl
theorem ZgJ {ns:List Nd}{is:List In}{ds:List Df}{zs:List Int}{I:Int}{X:List Nd}{M:Mc}{f e:List ByteArray}{ok:Bool}(h:pdT (pdR ns is ds zs)=(I,X,M,f,e,ok)):(ok=true -> 1 <= I)/\(ok=false -> I=0):=by
 cases d:pdR ns is ds zs with
 | none =>
  rw [d] at h;simp only [pdT,Prod.mk.injEq] at h;obtain ⟨rfl,_,_,_,_,rfl⟩:=h;exact ⟨(fun h=>by cases h),fun _=>rfl⟩
 | some q =>
  have a:=d;rw [d] at h;obtain ⟨i,m,b,o⟩:=q;simp only [pdT,Prod.mk.injEq] at h;obtain ⟨rfl,_,_,_,_,rfl⟩:=h;refine ⟨fun _=>?_,(fun h=>by cases h)⟩;unfold pdR at a;simp only [Option.bind_eq_some_iff] at a;obtain ⟨p,_,t,_,j,_,g,_,a⟩:=a;split at a
  ·rw [Option.bind_eq_some_iff] at a
   obtain ⟨r,_,a⟩:=a;split at a
   ·rename_i c
    simp only [Option.some.injEq,Prod.mk.injEq] at a;obtain ⟨rfl,_⟩:=a;unfold Zbr pidB at c;simp at c;omega
   ·cases a
  ·cases a
theorem Zhr {zs:List Int}{k p:Int}{t:ByteArray}(h:mrd zs=some (k,p,t)):t.size <= zs.length:=by
 have b:∀ {g d a:Int} {q:Int × Int × ByteArray},mEnd zs g d a=some q -> q.2.2.size <= zs.length:=by
  intro g d a q f;unfold mEnd at f;rw [Option.bind_eq_some_iff] at f;obtain ⟨r,c,e⟩:=f;split at e
  ·cases e
   unfold rt at c;split at c
   ·cases c
    exact ZcQ zs a
   ·cases c
  ·cases e
 unfold mrd at h;rw [Option.bind_eq_some_iff] at h;obtain ⟨r,_,h⟩:=h;split at h
 ·rw [Option.bind_eq_some_iff] at h
  obtain ⟨d,_,h⟩:=h;exact b h
 ·split at h
  ·exact b h
  ·cases h
def ZmR (f:ByteArray -> Bool):List ByteArray -> Nat -> Int
 | [],_=>-1
 | s :: ss,i=>if f s then i else ZmR f ss (i+1)
def onW (d:Wd)(p:Int)(i:Nat):Bool:=((d.ga.getD i []).drop ((d.ls[i]?.map Lk.got).getD 0).toNat).any (movB d.ns d.is d.ds p)
def whGo (f:Nat -> Bool)(pl:Int):Nat -> Nat -> Int
 | 0,_=>-1
 | n+1,i=>if f i then (i:Int) % pl else whGo f pl n (i+1)
def whL (d:Wd)(p:Int):Int:=if 0 < d.pl then whGo (onW d p) d.pl (min d.ls.length d.ga.length) 0 else -1
def whR (d:Wd)(p:Int):Int:=if 0 <= Zmk d.hs p 0 then (d.hs[(Zmk d.hs p 0).toNat]?.map Hm.pl).getD 0 else whL d p
theorem ZcX (b:Nat)(v:Value)(zs:List Int)(a:Int)(ok:Bool)(w:World)(R:Row w v zs)(h:C8 w b v a ok)(q : -9223372036854775808 <= a)(r:a <= 9223372036854775807) :
  Calls prog 115 #[.pointer (some ⟨b,0,none⟩)] w fun e n=>e=.returned (.string (txt8 zs a ok).1)/\C8 n b v (txt8 zs a ok).2.1 (txt8 zs a ok).2.2/\w.grownBy n (some b):=by
 have A:=R;obtain ⟨s,i,rfl,_⟩:=A;unfold C8 at h;have c0:w.cell? ⟨b,0,none⟩=some (.slice s zs.length i):=cd _ _ 0 _ _ _ h;have c1:w.cell? ⟨b,1,none⟩=some (.int .i64 a):=cd _ _ 1 _ _ _ h;have c2:w.cell? ⟨b,2,none⟩=some (.bool ok):=cd _ _ 2 _ _ _ h;have y:w.frozen? ⟨b,1,none⟩=false:=cw _ _ 1 _ _ h;have z:w.frozen? ⟨b,2,none⟩=false:=cw _ _ 2 _ _ h;obtain ⟨g,k⟩:∃ g,Hid (gT zs a=g):=⟨_,rfl⟩;obtain ⟨o,l,t⟩:=g
 have x:∀ W:World,Row W (.slice s zs.length i) zs -> Calls prog 149 #[.slice s zs.length i,.int .i64 a] W fun e n=>e=.returned (.tuple #[.string o,.int .i64 l,.bool t])/\n=W:=fun W B=>by
  have:=Zey _ zs a W B q r;rw [k.out] at this;exact this
 have j:Hid (txt8 zs a ok=if ok && t then (o,l,true) else (⟨#[]⟩,a,false)):=by unfold Hid txt8;rw [k.out]
 have u:∀ m,Below w.heap.size w (w.drewN m):=fun m=>⟨rfl,rfl,rfl,ce _,fun _ _=>rfl⟩
 go_enter func115,ntmps115
 go_wp2_with fail
 go_quiet (first | (go_at_call 149;refine Calls.quiet_of_same (x _ R)))
 all_goals
  have lt:=(bl h);have f:=((u nq).block _ lt).trans h;have p:w.grownBy (w.drewN nq) (some b):=⟨rfl,rfl,rfl,ce _,fun _ _ _=>rfl⟩;clear c0 c1 c2 y z u x;generalize w.drewN nq=d at *;have c1:d.cell? ⟨b,1,none⟩=some (.int .i64 a):=cd _ _ 1 _ _ _ f;have c2:d.cell? ⟨b,2,none⟩=some (.bool ok):=cd _ _ 2 _ _ _ f;have y:d.frozen? ⟨b,1,none⟩=false:=cw _ _ 1 _ _ f;have z:d.frozen? ⟨b,2,none⟩=false:=cw _ _ 2 _ _ f;cases t with
  | false =>
   have c:Hid (txt8 zs a ok=(⟨#[]⟩,a,false)):=by unfold Hid;rw [j.out,Bool.and_false];rfl
   clear j k;go_wp2;go_ret;rw [c.out];exact ⟨rfl,cu d b 2 _ _ (.bool false) f,Zaj p (Zan d b 2 _)⟩
  | true =>
   cases ok with
   | false =>
    have c:Hid (txt8 zs a false=(⟨#[]⟩,a,false)):=j.out;clear j k;go_wp2;go_ret;rw [c.out];exact ⟨rfl,cu d b 2 _ _ (.bool false) f,Zaj p (Zan d b 2 _)⟩
   | true =>
    have c:Hid (txt8 zs a true=(o,l,true)):=j.out;clear j k;go_wp2;go_ret;rw [c.out];exact ⟨rfl,cu d b 1 _ _ (.int .i64 l) f,Zaj p (Zan d b 1 _)⟩
end Go.Proofs.YtkpfangkfknhoaaGreatDoor
