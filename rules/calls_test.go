package rules

import (
	"quota/analysis"
	"quota/api"
	"quota/apply"
	"quota/audit"
	"quota/desk"
	"quota/engine"
	"quota/escrow"
	"quota/field"
	"quota/interval"
	"quota/ledger"
	"quota/log"
	"quota/master"
	"quota/page"
	"quota/points"
	"quota/pool"
	"quota/quota"
	"quota/record"
	"quota/redo"
	"quota/registry"
	"quota/room"
	"quota/sectors"
	"quota/serial"
	"quota/twin"
	"quota/txns"
	"quota/undo"
	"quota/world"
)

// The calls of every layer, with the signatures that the chapters list: what is otherwise does not compile.

// Layer 1.
var (
	_ func(a, b int64) (int64, api.Errno)                    = interval.Add
	_ func(a, b int64) (int64, api.Errno)                    = interval.Sub
	_ func(a int64) (int64, api.Errno)                       = interval.Neg
	_ func(list ...int64) (int64, api.Errno)                 = interval.Sum
	_ func(base int64, nets ...int64) (api.Range, api.Errno) = interval.Worst
	_ func(r api.Range) api.Errno                            = interval.Check
	_ func(r api.Range, v int64) bool                        = interval.Has
	_ func(a, b api.Range) bool                              = interval.Within
)

// Layer 2.
var (
	_ func(parts ...[]byte) uint32                     = field.Sum
	_ func() *field.Writer                             = field.NewWriter
	_ func(w *field.Writer, n uint64)                  = (*field.Writer).U
	_ func(w *field.Writer, n int64)                   = (*field.Writer).S
	_ func(*field.Writer) []byte                       = (*field.Writer).Out
	_ func(b []byte) *field.Reader                     = field.NewReader
	_ func(r *field.Reader, most uint64) uint64        = (*field.Reader).U
	_ func(*field.Reader) int64                        = (*field.Reader).S
	_ func(*field.Reader)                              = (*field.Reader).End
	_ func(*field.Reader) (at int, e api.Errno)        = (*field.Reader).Fault
	_ func(b []byte, at, size int, n uint64) api.Errno = field.Put
	_ func(b []byte, at, size int) (uint64, api.Errno) = field.Get
)

// Layer 3.
var (
	_ func(n int) (*sectors.Device, api.Errno)                   = sectors.New
	_ func(image []byte) (*sectors.Device, api.Errno)            = sectors.Load
	_ func(*sectors.Device) int                                  = (*sectors.Device).Sectors
	_ func(d *sectors.Device, i int) ([]byte, api.Errno)         = (*sectors.Device).Read
	_ func(d *sectors.Device, i int, b []byte) api.Errno         = (*sectors.Device).Write
	_ func(*sectors.Device) api.Errno                            = (*sectors.Device).Sync
	_ func(*sectors.Device) []byte                               = (*sectors.Device).Image
	_ func(*sectors.Device) []api.Pending                        = (*sectors.Device).Cache
	_ func(d *sectors.Device, step int, loss api.Loss) api.Errno = (*sectors.Device).Arm
	_ func(d *sectors.Device, loss api.Loss) api.Errno           = (*sectors.Device).Crash
	_ func(*sectors.Device) bool                                 = (*sectors.Device).Down
	_ func(*sectors.Device) api.Errno                            = (*sectors.Device).Up
	_ func(*sectors.Device) int                                  = (*sectors.Device).Calls
)

// Layer 4.
var (
	_ func(s api.Shape) (int, api.Errno)                          = master.Need
	_ func(s api.Shape, page int) (int, api.Errno)                = master.Home
	_ func(s api.Shape) (int, api.Errno)                          = master.Log
	_ func(d *sectors.Device, s api.Shape) error                  = master.Format
	_ func(d *sectors.Device) (s api.Shape, point int, err error) = master.Open
	_ func(d *sectors.Device, lsn int) error                      = master.Point
)

// Layer 5.
var (
	_ func(r api.Record) api.Errno           = record.Check
	_ func(r api.Record) ([]byte, api.Errno) = record.Encode
	_ func(b []byte) (api.Record, api.Errno) = record.Decode
)

// Layer 6.
var (
	_ func(d *sectors.Device, first, count int) (*log.Log, error) = log.Open
	_ func(l *log.Log, r api.Record) (int, api.Errno)             = (*log.Log).Append
	_ func(l *log.Log, lsn int) error                             = (*log.Log).Force
	_ func(*log.Log) int                                          = (*log.Log).Forced
	_ func(*log.Log) int                                          = (*log.Log).Last
	_ func(*log.Log) int                                          = (*log.Log).Free
	_ func(l *log.Log, lsn int) (api.Record, api.Errno)           = (*log.Log).Get
	_ func(*log.Log) error                                        = (*log.Log).Err
)

// Layer 7.
var (
	_ func(p page.Page) ([]byte, api.Errno)             = page.Encode
	_ func(b []byte, number int) (page.Page, api.Errno) = page.Decode
	_ func(page.Page) page.Page                         = page.Page.Copy
)

// Layer 8.
var (
	_ func(d *sectors.Device, at, home int, b []byte) error = twin.Write
	_ func(d *sectors.Device, at int) (bool, error)         = twin.Finish
	_ func(d *sectors.Device, home int) ([]byte, error)     = twin.Read
)

// Layer 9.
var (
	_ func(d *sectors.Device, l *log.Log, s api.Shape) (*pool.Pool, api.Errno) = pool.New
	_ func(p *pool.Pool, n int) (page.Page, error)                             = (*pool.Pool).Get
	_ func(p *pool.Pool, x page.Page) error                                    = (*pool.Pool).Put
	_ func(p *pool.Pool, n int) error                                          = (*pool.Pool).Pin
	_ func(p *pool.Pool, n int) api.Errno                                      = (*pool.Pool).Unpin
	_ func(p *pool.Pool, n int) error                                          = (*pool.Pool).Evict
	_ func(p *pool.Pool, n int) error                                          = (*pool.Pool).Flush
	_ func(*pool.Pool) []api.Dirty                                             = (*pool.Pool).Dirty
	_ func(*pool.Pool) []int                                                   = (*pool.Pool).Held
)

// Layer 10.
var (
	_ func(bounds api.Range, value int64) (*escrow.Escrow, api.Errno) = escrow.New
	_ func(e *escrow.Escrow, tx int, delta int64) api.Errno           = (*escrow.Escrow).May
	_ func(e *escrow.Escrow, tx int, delta int64) api.Errno           = (*escrow.Escrow).Add
	_ func(e *escrow.Escrow, tx int) (int64, bool)                    = (*escrow.Escrow).Net
	_ func(e *escrow.Escrow, tx int) bool                             = (*escrow.Escrow).Settle
	_ func(e *escrow.Escrow, tx int) bool                             = (*escrow.Escrow).Release
	_ func(*escrow.Escrow) api.Range                                  = (*escrow.Escrow).Interval
	_ func(*escrow.Escrow) int64                                      = (*escrow.Escrow).Settled
	_ func(*escrow.Escrow) int64                                      = (*escrow.Escrow).Value
	_ func(*escrow.Escrow) api.Range                                  = (*escrow.Escrow).Bounds
	_ func(*escrow.Escrow) []int                                      = (*escrow.Escrow).Holders
	_ func(*escrow.Escrow) *escrow.Escrow                             = (*escrow.Escrow).Copy
)

// Layer 11.
var (
	_ func() *ledger.Ledger                                          = ledger.New
	_ func(list []api.Counter) (*ledger.Ledger, api.Errno)           = ledger.Load
	_ func(l *ledger.Ledger, c api.Counter) api.Errno                = (*ledger.Ledger).Create
	_ func(l *ledger.Ledger, tx, counter int, delta int64) api.Errno = (*ledger.Ledger).May
	_ func(l *ledger.Ledger, tx, counter int, delta int64) api.Errno = (*ledger.Ledger).Add
	_ func(l *ledger.Ledger, tx int) []api.Holding                   = (*ledger.Ledger).Holdings
	_ func(l *ledger.Ledger, tx int) int                             = (*ledger.Ledger).Settle
	_ func(l *ledger.Ledger, tx int) int                             = (*ledger.Ledger).Release
	_ func(l *ledger.Ledger, counter int) (api.Range, api.Errno)     = (*ledger.Ledger).Read
	_ func(l *ledger.Ledger, group int) (int64, api.Errno)           = (*ledger.Ledger).Sum
	_ func(l *ledger.Ledger, group int) (api.Range, api.Errno)       = (*ledger.Ledger).Worst
	_ func(*ledger.Ledger) []api.Counter                             = (*ledger.Ledger).Counters
	_ func(*ledger.Ledger) []api.Group                               = (*ledger.Ledger).Groups
	_ func(*ledger.Ledger) *ledger.Ledger                            = (*ledger.Ledger).Copy
)

// Layer 12.
var (
	_ func(pages int) (*registry.Registry, api.Errno)                                                 = registry.New
	_ func(r *registry.Registry, counter, group int) (where, sums api.Slot, e api.Errno)              = (*registry.Registry).Plan
	_ func(r *registry.Registry, counter, group int, where, sums api.Slot) api.Errno                  = (*registry.Registry).Take
	_ func(r *registry.Registry, counter int) (where api.Slot, group int, sums api.Slot, e api.Errno) = (*registry.Registry).Find
	_ func(r *registry.Registry, group int) (api.Slot, api.Errno)                                     = (*registry.Registry).Group
	_ func(*registry.Registry) []int                                                                  = (*registry.Registry).Counters
	_ func(*registry.Registry) []int                                                                  = (*registry.Registry).Groups
)

// Layer 13.
var (
	_ func(next int) (*txns.Table, api.Errno)           = txns.New
	_ func(p api.Points) (*txns.Table, api.Errno)       = txns.Load
	_ func(*txns.Table) int                             = (*txns.Table).Next
	_ func(t *txns.Table, lsn int) (int, api.Errno)     = (*txns.Table).Begin
	_ func(t *txns.Table, tx int) (api.Live, api.Errno) = (*txns.Table).Get
	_ func(t *txns.Table, r api.Record) api.Errno       = (*txns.Table).Note
	_ func(*txns.Table) []api.Live                      = (*txns.Table).Live
)

// Layer 14.
var (
	_ func(r api.Record) []int                                     = apply.Pages
	_ func(p page.Page, r api.Record) (page.Page, bool, api.Errno) = apply.Do
)

// Layer 15.
var (
	_ func() *room.Room                                                = room.New
	_ func(r *room.Room, free, parts, more int) api.Errno              = (*room.Room).May
	_ func(r *room.Room, tx int) api.Errno                             = (*room.Room).Begin
	_ func(r *room.Room, tx, counter int) api.Errno                    = (*room.Room).Hold
	_ func(r *room.Room, tx int, kind api.Kind, counter int) api.Errno = (*room.Room).Wrote
	_ func(*room.Room) int                                             = (*room.Room).Promised
	_ func(r *room.Room, tx int) int                                   = (*room.Room).Of
)

// Layer 16.
var (
	_ func(t *txns.Table, p *pool.Pool) (api.Points, api.Errno) = points.Take
	_ func(p api.Points) api.Errno                              = points.Check
	_ func(p api.Points) int                                    = points.From
	_ func(a, b []api.Dirty) ([]api.Dirty, api.Errno)           = points.Merge
)

// Layer 17.
var (
	_ func(records []api.Record, point int) (analysis.Found, api.Errno) = analysis.Run
)

// Layer 18.
var (
	_ func(l *log.Log, p *pool.Pool, from int) (int, error) = redo.Run
)

// Layer 19.
var (
	_ func(records []api.Record, tx int) ([]api.Record, api.Errno)       = undo.Left
	_ func(l *log.Log, p *pool.Pool, t *txns.Table, tx int) (int, error) = undo.Run
)

// Layer 20.
var (
	_ func(d *sectors.Device, s api.Shape) (*engine.Engine, error) = engine.Format
	_ func(d *sectors.Device) (*engine.Engine, error)              = engine.Open
	_ func(*engine.Engine) (int, error)                            = (*engine.Engine).Begin
	_ func(e *engine.Engine, c api.Counter) error                  = (*engine.Engine).Create
	_ func(e *engine.Engine, tx, counter int, delta int64) error   = (*engine.Engine).Add
	_ func(e *engine.Engine, counter int) (api.Range, error)       = (*engine.Engine).Read
	_ func(e *engine.Engine, group int) (int64, error)             = (*engine.Engine).Sum
	_ func(e *engine.Engine, tx int) error                         = (*engine.Engine).Commit
	_ func(e *engine.Engine, tx int) error                         = (*engine.Engine).Abort
	_ func(*engine.Engine) error                                   = (*engine.Engine).Checkpoint
	_ func(e *engine.Engine, page int) error                       = (*engine.Engine).Evict
	_ func(e *engine.Engine, page int) error                       = (*engine.Engine).Flush
	_ func(*engine.Engine) ([]api.Counter, error)                  = (*engine.Engine).Counters
	_ func(*engine.Engine) ([]int, error)                          = (*engine.Engine).Live
	_ func(e *engine.Engine, tx int) ([]api.Holding, error)        = (*engine.Engine).Holdings
	_ func(*engine.Engine) (free, promised int, err error)         = (*engine.Engine).Free
)

// Layer 21.
var (
	_ func(records []api.Record) ([]serial.Run, api.Errno)                                  = serial.Of
	_ func(start []api.Counter, runs []serial.Run) (end []api.Counter, at int, e api.Errno) = serial.Play
	_ func(start []api.Counter, runs []serial.Run) ([]api.Counter, api.Errno)               = serial.Values
	_ func(records []api.Record) ([]api.Counter, api.Errno)                                 = serial.Start
)

// Layer 22.
var (
	_ func(image []byte) (audit.Report, api.Errno)          = audit.Look
	_ func(records []api.Record) ([]api.Counter, api.Errno) = audit.Settled
	_ func(image []byte) (bool, api.Errno)                  = audit.Clean
)

// Layer 23.
var (
	_ func(e *engine.Engine) (*desk.Desk, api.Errno)          = desk.Open
	_ func(d *desk.Desk, s api.Step) api.Answer               = (*desk.Desk).Do
	_ func(d *desk.Desk, callers [][]api.Step) [][]api.Answer = (*desk.Desk).All
	_ func(*desk.Desk) api.Errno                              = (*desk.Desk).Close
)

// Layer 24.
var (
	_ func(s api.Shape) (*world.World, api.Errno)                                  = world.New
	_ func(w *world.World, s api.Step) api.Answer                                  = (*world.World).Play
	_ func(*world.World) ([]api.Counter, api.Errno)                                = (*world.World).Counters
	_ func(*world.World) []byte                                                    = (*world.World).Image
	_ func(*world.World) bool                                                      = (*world.World).Up
	_ func(s api.Shape, steps []api.Step) ([]api.Answer, []api.Counter, api.Errno) = world.Run
)

// Layer 25.
var (
	_ func(script string) (s api.Shape, steps []api.Step, line int, e api.Errno) = quota.Parse
	_ func(s api.Shape, steps []api.Step) (string, api.Errno)                    = quota.Print
	_ func(script string) (transcript string, line int, e api.Errno)             = quota.Run
)
